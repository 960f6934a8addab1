/- Texts of ClashForks, one behind the other: PosFour, CutCalls, CutHas, CutSpan, CutOver, ProofPlaces, ProofBytes, ProofEncode. -/
import Derived.Deep.QuietTactic
import Derived.BigQuiet
import Derived.Deep.MidRow
import Derived.Test.YthpdlnbbbcgemaaGreatDoorClashForksP5
namespace Go.Proofs.YthpdlnbbbcgemaaGreatDoor
open Go.RowKit
def Nums (w:World) (v:Value) (l:List Nat):Prop:=∃ a cap,v=.slice a l.length cap∧(0<l.length→∃ g,a=some ⟨g,0,none⟩∧g<w.heap.size∧∀ (j:Nat),j<l.length→w.cell? ⟨g,j,none⟩=some (.int .u64 ((l.getD j 0:Nat):Int)))
theorem Nums.below {w w':World} {v:Value} {l:List Nat} {B:Nat} (h:Nums w v l) (hb:Below B w w') (hB:w.heap.size≤B):Nums w' v l:=by
  obtain ⟨a,cap,rfl,h⟩:=h
  refine ⟨a,cap,rfl,fun h0=>?_⟩
  obtain ⟨g,e,hg,hc⟩:=h h0
  exact ⟨g,e,Nat.lt_of_lt_of_le hg hb.size,fun j hj=>(hb.cell (p:=⟨g,j,none⟩) (Nat.lt_of_lt_of_le hg hB)).trans (hc j hj)⟩
structure Four (w:World) (B:Nat) (K:Nat→Prop) (v:Nat→Value) (n:Nat→Nat) (xs:Nat→List Value):Prop where
  row:∀ x,x<4→w.ownsRow B 22 1 (v x) (n x) (xs x)
  apart:∀ x y,x<4→y<4→x≠y→∀ g,(v x).ownBlock=some g→(v y).ownBlock≠some g
  off:∀ x,x<4→∀ g,(v x).ownBlock=some g→¬ K g
def UPD {α:Type} (f:Nat→α) (x:Nat) (a:α):Nat→α:=fun z=>if z=x then a else f z
theorem z1A {α:Type} (f:Nat→α) (x:Nat) (a:α):UPD f x a x=a:=by simp [UPD]
theorem z0L {α:Type} (f:Nat→α) {x z:Nat} (a:α) (h:z≠x):UPD f x a z=f z:=by simp [UPD,h]
theorem Four.alloc {w:World} {B:Nat} {K:Nat→Prop} {v:Nat→Value} {n:Nat→Nat} {xs:Nat→List Value} (h:Four w B K v n xs) (o:Obj):Four (w.alloc o) B K v n xs:=⟨fun x hx=>(h.row x hx).alloc o,h.apart,h.off⟩
theorem Four.below {w w':World} {B:Nat} {K:Nat→Prop} {v:Nat→Value} {n:Nat→Nat} {xs:Nat→List Value} (h:Four w B K v n xs) (hb:Below w.heap.size w w'):Four w' B K v n xs:=⟨fun x hx=>z0q (h.row x hx) hb,h.apart,h.off⟩
theorem z2O (W:World) (b j:Nat) (v:Value):W.grownBy (W.setCell ⟨b,j,none⟩ v) (some b):=
  ⟨rfl,rfl,rfl,(KeepsWalks.setCell W _ v).size,fun k _ hk=>Below.heap_setCell _ _ _ k (fun e=>hk (by rw [e]))⟩
theorem Four.other {w:World} {B:Nat} {K:Nat→Prop} {v:Nat→Value} {n:Nat→Nat} {xs:Nat→List Value} (h:Four w B K v n xs) {b:Nat} (hb:K b) (j:Nat) (u:Value):Four (w.setCell ⟨b,j,none⟩ u) B K v n xs:=
  ⟨fun x hx=>(h.row x hx).kept (z2O w b j u) (.inr fun e=>h.off x hx b e hb),h.apart,h.off⟩
theorem Four.store {w:World} {B:Nat} {K:Nat→Prop} {v:Nat→Value} {n:Nat→Nat} {xs:Nat→List Value} (h:Four w B K v n xs) {x g m cap:Nat} (hx:x<4) (hv:v x=.slice (some ⟨g,0,none⟩) m cap) (j:Nat) (u:Value):
    Four (w.setCell ⟨g,j,none⟩ u) B K v n (UPD xs x ((xs x).set j u)):=by
  refine ⟨fun z hz=>?_,h.apart,h.off⟩
  by_cases e:z=x
  · subst e
    have hr:=h.row z hz
    rw [hv] at hr ⊢
    have hm:m=n z:=by
      rcases hr.2 with ⟨e,_⟩ | ⟨_,_,_,e,_⟩
      · simp at e
      · simp at e
        omega
    subst hm
    rw [z1A]
    exact (hr.stored j u).1
  · rw [z0L xs _ e]
    refine (h.row z hz).kept (z2O w g j u) (.inr fun e2=>?_)
    exact h.apart x z hx hz (fun e3=>e e3.symm) g (by rw [hv];rfl) e2
theorem Four.app {w w':World} {B:Nat} {K:Nat→Prop} {v:Nat→Value} {n:Nat→Nat} {xs:Nat→List Value} (h:Four w B K v n xs) {x g cap:Nat} {u:Value} (hx:x<4) (hK:∀ k,K k→k<w.heap.size)
    (hown:w'.ownsRow B 22 1 (.slice (some ⟨g,0,none⟩) (n x+1) cap) (n x+1) (xs x ++ [u])) (hgrow:w.grownBy w' (v x).ownBlock) (hg:(v x).ownBlock=some g∨g=w.heap.size):
    Four w' B K (UPD v x (.slice (some ⟨g,0,none⟩) (n x+1) cap)) (UPD n x (n x+1)) (UPD xs x (xs x ++ [u])):=by
  refine ⟨fun z hz=>?_,fun y z hy hz hne k hk=>?_,fun z hz k hk=>?_⟩
  · by_cases e:z=x
    · subst e
      rw [z1A,z1A,z1A]
      exact hown
    · rw [z0L v _ e,z0L n _ e,z0L xs _ e]
      refine (h.row z hz).kept hgrow ?_
      cases hb:(v z).ownBlock with
      | none=>exact .inl rfl
      | some k=>exact .inr fun e2=>h.apart z x hz hx e k hb e2.symm
  · by_cases ey:y=x
    · subst ey
      rw [z1A] at hk
      have hkg:g=k:=by simpa [Value.ownBlock] using hk
      subst hkg
      rw [z0L v _ (fun e=>hne e.symm)]
      intro e2
      rcases hg with hg | hg
      · exact h.apart y z hx hz hne g hg e2
      · have:=((h.row z hz).lt g e2).2
        omega
    · rw [z0L v _ ey] at hk
      by_cases ez:z=x
      · subst ez
        rw [z1A]
        intro e2
        have hkg:g=k:=by simpa [Value.ownBlock] using e2
        subst hkg
        rcases hg with hg | hg
        · exact h.apart y z hy hz hne g hk hg
        · have:=((h.row y hy).lt g hk).2
          omega
      · rw [z0L v _ ez]
        exact h.apart y z hy hz hne k hk
  · by_cases ez:z=x
    · subst ez
      rw [z1A] at hk
      have hkg:g=k:=by simpa [Value.ownBlock] using hk
      subst hkg
      rcases hg with hg | hg
      · exact h.off z hz g hg
      · intro hkk
        have:=hK g hkk
        omega
    · rw [z0L v _ ez] at hk
      exact h.off z hz k hk
theorem z1R {w:World} {B n:Nat} {v:Value} {xs:List Value} (h:w.ownsRow B 22 1 v n xs):∃ a cap,v=.slice a n cap∧(0<n→∃ g,a=some ⟨g,0,none⟩∧g<w.heap.size∧B≤g):=by
  rcases h.2 with ⟨rfl,h0⟩ | ⟨g,cap,cur,rfl,hb,hg,r⟩
  · subst h0
    exact ⟨none,0,rfl,fun h=>by omega⟩
  · exact ⟨_,cap,rfl,fun _=>⟨g,rfl,(Array.getElem?_eq_some_iff.1 hg).1,hb⟩⟩
theorem z8C {ops:Array Oper} {rest:List Oper} {o:Oper} {a:Act} {Q:Exit→Act→World→Prop} (w:World) (hgd:o.guard=none) (s x:Operand)
    (ho:o.op=.call {callee:=.builtin .append,args:=#[s,x],argTypes:=#[88,88]})
    (base:Nat) (v:Value) (n:Nat) (xs:List Value) (hs:a.eval s=v) (hown:w.ownsRow base 22 1 v n xs)
    (b c:Nat) (y:Int) (hx:a.eval x=.slice (some ⟨b,0,none⟩) 1 c) (hc:w.cell? ⟨b,0,none⟩=some (.int .u64 y))
    (hb:n≤1000) (hbase:base≤w.heap.size)
    (h:∀ g cap w',w'.ownsRow base 22 1 (.slice (some ⟨g,0,none⟩) (n+1) cap) (n+1) (xs ++ [.int .u64 y])→w.grownBy w' v.ownBlock→(v.ownBlock=some g∨g=w.heap.size)→g<w'.heap.size→wpList Tryz.prog ops Q rest (a.put o.dst (.slice (some ⟨g,0,none⟩) (n+1) cap)) w'):wpList Tryz.prog ops Q (o :: rest) a w:=by
  obtain ⟨i,hi,hz,hs1,hby⟩:=info_parts z2d
  refine wpList_append_lies w hgd s x 88 ho base 22 i (.int .u64 0) 1 8 Tryz.underlying88 hi hz hs1 hby rfl (by decide) v n xs hs hown ⟨b,0,none⟩ 1 c [.int .u64 y] hx rfl ?_ (fun u hu=>by simp at hu;subst hu;rfl) (by decide) (by simp only [maxLen];omega) (by omega) hbase w.heap.size rfl h
  intro j u hj
  cases j with
  | zero=>
    simp only [List.getElem?_cons_zero,Option.some.injEq] at hj
    subst hj
    exact hc
  | succ j=>simp at hj
theorem Has.grown {w w':World} {g:Nat} {c:Array Value} {t:TypeId} {row:Option Nat} (h:Has w g c t) (hg:w.grownBy w' row) (hne:row≠some g):Has w' g c t:=by
  obtain ⟨_,_,_,_,hk⟩:=hg
  exact (hk g h.lt (fun e=>hne e.symm)).trans h
theorem Four.of {w:World} {B b1 b2 b3 b4:Nat} {K:Nat→Prop} {v0 v1 v2 v3:Value} {n m:Nat} {xs ys:List Value} (h0:w.ownsRow B 22 1 v0 n xs) (h1:w.ownsRow b1 22 1 v1 n xs) (h2:w.ownsRow b2 22 1 v2 m ys) (h3:w.ownsRow b3 22 1 v3 m ys)
    (l0:∀ k,v0.ownBlock=some k→k<b1) (l1:∀ k,v1.ownBlock=some k→k<b2) (l2:∀ k,v2.ownBlock=some k→k<b3) (l3:∀ k,v3.ownBlock=some k→k<b4) (o1:B≤b1) (o2:b1≤b2) (o3:b2≤b3) (o4:b3≤b4) (hK:∀ k,K k→b4≤k):
    ∃ (V:Nat→Value) (N:Nat→Nat) (XS:Nat→List Value),Four w B K V N XS∧V 0=v0∧V 1=v1∧V 2=v2∧V 3=v3∧(∀ x,x<4→N x=n∨N x=m):=by
  have key:∀ x,x<4→x=0∨x=1∨x=2∨x=3:=fun x hx=>by omega
  have bnd:∀ x,x<4→∀ k,((if x=0 then v0 else if x=1 then v1 else if x=2 then v2 else v3:Value)).ownBlock=some k→(if x=0 then B else if x=1 then b1 else if x=2 then b2 else b3)≤k∧k<(if x=0 then b1 else if x=1 then b2 else if x=2 then b3 else b4):=fun x hx k hk=>by
    rcases key x hx with rfl | rfl | rfl | rfl
    · exact ⟨(h0.lt k hk).1,l0 k hk⟩
    · exact ⟨(h1.lt k hk).1,l1 k hk⟩
    · exact ⟨(h2.lt k hk).1,l2 k hk⟩
    · exact ⟨(h3.lt k hk).1,l3 k hk⟩
  refine ⟨fun x=>if x=0 then v0 else if x=1 then v1 else if x=2 then v2 else v3,fun x=>if x<2 then n else m,fun x=>if x<2 then xs else ys,⟨fun x hx=>?_,fun x y hx hy hne k hk hk2=>?_,fun x hx k hk hkk=>?_⟩,rfl,rfl,rfl,rfl,fun x hx=>?_⟩
  · rcases key x hx with rfl | rfl | rfl | rfl
    · exact h0
    · exact z0u h1 o1
    · exact z0u h2 (Nat.le_trans o1 o2)
    · exact z0u h3 (Nat.le_trans o1 (Nat.le_trans o2 o3))
  · have hx':=bnd x hx k hk
    have hy':=bnd y hy k hk2
    rcases key x hx with rfl | rfl | rfl | rfl <;> rcases key y hy with rfl | rfl | rfl | rfl <;> simp at hx' hy' hne <;> omega
  · have hx':=bnd x hx k hk
    have:=hK k hkk
    rcases key x hx with rfl | rfl | rfl | rfl <;> simp at hx' <;> omega
  · rcases key x hx with rfl | rfl | rfl | rfl <;> simp
end Go.Proofs.YthpdlnbbbcgemaaGreatDoor

namespace Go.Proofs.YthpdlnbbbcgemaaGreatDoor
open Go.RowKit
theorem z6Y (X:Nat) (hX:X<2 ^ 64):∃ t:Nat,t≤64∧(X=0→t=64)∧(∀ h,h≤64→(X % 2 ^ h=0↔h≤t))∧∀ w,Tabled w→Calls Tryz.prog 107 #[.int .u64 (X:Int)] w fun e w'=>e=.returned (.int .i64 (t:Int))∧w=w':=by
  by_cases h0:X=0
  · subst h0
    exact ⟨64,Nat.le_refl _,fun _=>rfl,fun h hh=>by simp [hh],fun w _=>z6K _ _ w (zfu w)⟩
  · obtain ⟨t,q,e⟩:=z7j X h0
    have ht:=(z6J hX e).2
    refine ⟨t,by omega,fun c=>absurd c h0,?_,fun w hT=>z6K _ _ w (zfk X t q hX e w hT)⟩
    intro h _
    constructor
    · intro hm
      rcases Nat.lt_or_ge t h with c | c
      · have h1:2 ^ (t+1) ∣ 2 ^ h:=Nat.pow_dvd_pow 2 c
        have h2:X % 2 ^ (t+1)=0:=Nat.mod_eq_zero_of_dvd (Nat.dvd_trans h1 (Nat.dvd_of_mod_eq_zero hm))
        rw [e,Nat.mul_comm] at h2
        have:=z2A.1 h2
        omega
      · exact c
    · intro hm
      have h1:2 ^ h ∣ 2 ^ t:=Nat.pow_dvd_pow 2 hm
      exact Nat.mod_eq_zero_of_dvd (Nat.dvd_trans h1 ⟨_,e⟩)
theorem zgD {a b t:Nat} (hab:a<b) (hb:b≤4611686018427387904) (ht:t≤64) (hd:∀ h,h≤64→(a % 2 ^ h=0↔h≤t)):min (t:Int) ((LEN (b - a):Nat) - 1:Int)=((HT a b:Nat):Int):=by
  obtain ⟨l1,l2,l3⟩:=z8n (b - a) (by omega) (by omega)
  have l4:LEN (b - a) - 1≤62:=by
    rcases Nat.lt_or_ge 62 (LEN (b - a) - 1) with h | h
    · have:2 ^ 63≤2 ^ (LEN (b - a) - 1):=Nat.pow_le_pow_right (by decide) h
      omega
    · exact h
  have:min t (LEN (b - a) - 1)=HT a b:=by
    refine z6V hab hb ⟨(hd _ (by omega)).2 (by omega),?_⟩ ?_
    · have:2 ^ min t (LEN (b - a) - 1)≤2 ^ (LEN (b - a) - 1):=Nat.pow_le_pow_right (by decide) (by omega)
      omega
    · intro c
      rcases Nat.lt_or_ge t (LEN (b - a) - 1) with h | h
      · have:=(hd _ (by omega)).1 c.1
        omega
      · have h1:=c.2
        have:2 ^ LEN (b - a)≤2 ^ (min t (LEN (b - a) - 1)+1):=Nat.pow_le_pow_right (by decide) (by omega)
        omega
  rw [← this]
  omega
theorem zfE (h k:Nat) (s r:Int) (w:World) (e1:IntKind.u64.wrap ((k:Int)+1)=s) (e:IntKind.u64.wrap (s*2 ^ min h 64)=r):Calls Tryz.prog 109 #[SPOT h k] w fun e w'=>e=.returned (.int .u64 r)∧Below w.heap.size w w':=by
  subst e
  go_enter Tryz.func109,Tryz.ntmps109
  go_wp2
  go_ret
  exact ⟨rfl,(Below.refl _ _).alloc (Nat.le_refl _) _⟩
theorem zcD (h k:Nat) (hN:Node h k) (w:World):Calls Tryz.prog 109 #[SPOT h k] w fun e w'=>e=.returned (.int .u64 (((k+1)*2 ^ h:Nat):Int))∧Below w.heap.size w w':=by
  have h1:=hN.span
  have h3:=hN.index_lt
  refine zfE h k ((k+1:Nat):Int) _ w (by rw [z06];omega) ?_
  exact z8s (k+1) h hN.1 (by omega)
end Go.Proofs.YthpdlnbbbcgemaaGreatDoor

namespace Go.Proofs.YthpdlnbbbcgemaaGreatDoor
open Go.RowKit
theorem Has.grew {w w':World} {g:Nat} {c:Array Value} {t:TypeId} {row:Option Nat} (h:Has w g c t) (hg:w.grownBy w' row) (hne:row≠some g):Has w' g c t:=by
  obtain ⟨_,_,_,_,hk⟩:=hg
  exact (hk g h.lt (fun e=>hne e.symm)).trans h
theorem zeg {wr w1:World} {c:Array Value} {t t':TypeId} {base s n:Nat} {v:Value} {xs:List Value} {o:Obj} (hown:wr.ownsRow base t' s v n xs) (hgrow:((wr.alloc (.cells c t)).alloc o).grownBy w1 v.ownBlock):Has w1 wr.heap.size c t:=
  ((Has.new wr c t).alloc o).grew hgrow (fun e=>by have:=(hown.lt _ e).2;omega)
end Go.Proofs.YthpdlnbbbcgemaaGreatDoor

namespace Go.Proofs.YthpdlnbbbcgemaaGreatDoor
open Go.RowKit
set_option maxHeartbeats 1000000 in
theorem zfF (a b:Nat) (ha:a<2 ^ 64) (hb:b≤4611686018427387904) (w:World) (hT:Tabled w) (h0:0<w.heap.size):Calls Tryz.prog 90 #[.int .u64 (a:Int),.int .u64 (b:Int)] w fun e w'=>
    ∃ v,e=.returned v∧w'.ownsRow w.heap.size 79 2 v (SPAN a b).length (z05 (SPAN a b))∧Below w.heap.size w w':=by
  have HA:Aside (b≤4611686018427387904∧Tabled w∧0<w.heap.size):=⟨hb,hT,h0⟩
  have hd:¬ (4611686018427387904:Int)<(b:Int):=by omega
  clear hT h0
  go_enter Tryz.func90,Tryz.ntmps90
  go_wp2
  go_loopg [0,5] (b - a) (fun g s0 s5 wx=>∃ (c:Nat) (pre:List (Nat × Nat)),s0=.int .u64 (c:Int)∧Aside (g=b - c∧c<2 ^ 64∧pre ++ SPAN c b=SPAN a b∧wx.ownsRow w.heap.size 79 2 s5 pre.length (z05 pre)∧Below w.heap.size w wx))
  case atStart=>exact ⟨a,[],rfl,rfl,ha,rfl,World.ownsRow_nil _ _ _ _,Below.refl _ _⟩
  case round=>
    obtain ⟨c,pre,rfl,A⟩:=hrel
    obtain ⟨hg,hc,hp,hown,hbel⟩:=A.out
    by_cases hlt:c<b
    · have hlt':(c:Int)<(b:Int):=by omega
      obtain ⟨t,ht,_,hd2,cl⟩:=z6Y c hc
      have hm:=zgD hlt hb ht hd2
      have ch:=z6O (b - c) (by omega)
      obtain ⟨s1,s2,s3⟩:=z1Y hlt hb
      obtain ⟨n1,n2,n3⟩:=s2.node s1 hb
      have es:IntKind.u64.wrap ((b:Int) - (c:Int))=((b - c:Nat):Int):=by rw [z06];omega
      replace cl:=cl wr (HA.out.2.1.below HA.out.2.2 hbel)
      have ce:=fun w=>zcD (HT c b) (c / 2 ^ HT c b) n1 w
      rw [n3] at ce
      have hsp:=z1f hlt
      have e8:((HT c b:Nat):Int) % 256=((HT c b:Nat):Int):=by omega
      have e9:(c:Int) / 2 ^ min (HT c b) 64=((c / 2 ^ HT c b:Nat):Int):=by rw [show min (HT c b) 64=HT c b by omega,z1O]
      have hpos:=Nat.two_pow_pos (HT c b)
      have R:Aside (gk=b - c∧c<2 ^ 64∧pre ++ SPAN c b=SPAN a b∧wr.ownsRow w.heap.size 79 2 u5 pre.length (z05 pre)∧Below w.heap.size w wr∧c+2 ^ HT c b≤b∧0<2 ^ HT c b∧pre.length≤1000∧SPAN c b=(HT c b,c / 2 ^ HT c b) :: SPAN (c+2 ^ HT c b) b):=⟨hg,hc,hp,hown,hbel,s2.2,hpos,by have:=congrArg List.length hp;have:=z1v (a:=a) hb;rw [List.length_append] at *;omega,hsp⟩
      have h0:¬ ((HT c b:Nat):Int)<0:=by omega
      obtain ⟨u,hu⟩:∃ u:Int,((LEN (b - c):Nat):Int) - 1=u:=⟨_,rfl⟩
      rw [hu] at hm ch
      obtain ⟨H,hH⟩:∃ H,HT c b=H:=⟨_,rfl⟩
      obtain ⟨K,hK⟩:∃ K,c / 2 ^ H=K:=⟨_,rfl⟩
      obtain ⟨c',hc'⟩:∃ c',c+2 ^ H=c':=⟨_,rfl⟩
      rw [hH] at hm ce e8 e9 R h0
      rw [hK] at ce e9 R
      rw [hc'] at ce R
      have hcase:(H=t∧(H:Int)≤u)∨(u=(H:Int)∧¬ (t:Int)≤(H:Int)):=by
        rcases Int.le_total (t:Int) u with h | h
        · rw [Int.min_eq_left h] at hm
          exact .inl ⟨by omega,by omega⟩
        · rw [Int.min_eq_right h] at hm
          by_cases h2:(t:Int)=u
          · exact .inl ⟨by omega,by omega⟩
          · exact .inr ⟨by omega,by omega⟩
      have R2:Aside (c+2 ^ H=c'):=hc'
      clear hd2 ht s1 s2 s3 n1 n2 n3 hg hc hp hown hbel hm hu hH hK hc' hsp hpos A hlt
      rcases hcase with ⟨rfl,hle⟩ | ⟨rfl,hle⟩
      all_goals
        go_wp2_with fail
        refine cl.mono ?_
        rintro e w' ⟨rfl,rfl⟩
        clear cl
        go_wp2_with fail
        refine (ch _).mono ?_
        rintro e w' ⟨rfl,rfl⟩
        clear ch
        go_wp2_with (at_builtin;refine z2z _ rfl (.tmp 26) (.tmp 28) rfl w.heap.size u5 pre.length pre rfl ((R.out.2.2.2.1.alloc _).alloc _) (wr.heap.size+1) 1 H K rfl ((Has.at _ _ _ (by simp)).cell 0) ((Has.at _ _ _ (by simp)).cell 1) R.out.2.2.2.2.2.2.2.1 (by have:=R.out.2.2.2.2.1.size;simp;omega) ?_;intro g' cap w1 hown hgrow hg;have hH1:=zeg R.out.2.2.2.1 hgrow;have hx0:w1.cell? ⟨wr.heap.size,0,none⟩=some (.int .u8 (H:Int)):=hH1.cell 0;have hx1:w1.cell? ⟨wr.heap.size,1,none⟩=some (.int .u64 (K:Int)):=hH1.cell 1)
        obtain ⟨r1,r2,r3,r4,r5,r6,r7,r8,r9⟩:=R.out
        have hr2:=R2.out
        have R3:Aside (c'<2 ^ 64∧b - c'<gk∧(pre ++ [(H,K)]) ++ SPAN c' b=SPAN a b∧w1.ownsRow w.heap.size 79 2 (.slice (some ⟨g',0,none⟩) (pre.length+1) cap) (pre.length+1) (z05 (pre ++ [(H,K)]))∧Below w.heap.size w w1):=⟨by have:=HA.out.1;omega,by omega,by rw [← r3,r9];simp,hown,((r5.alloc r5.size _).alloc (by have:=r5.size;simp;omega) _).grown hgrow (by have:=r5.size;simp;omega) (fun k e=>(r4.lt k e).1)⟩
        clear r1 r2 r3 r4 r5 r6 r7 r8 r9 hr2 hown R R2 hgrow hg
        refine (ce _).mono ?_
        rintro e w2 ⟨rfl,hb2⟩
        clear ce hx0 hx1 hH1
        go_wp2
        go_roundg (b - c')
        case measure=>exact R3.out.2.1
        case rel=>
          obtain ⟨r1,r2,r3,r4,r5⟩:=R3.out
          exact ⟨c',pre ++ [(H,K)],rfl,rfl,r1,r3,by rw [List.length_append];exact z0q r4 hb2,r5.trans (hb2.mono r5.size)⟩
    · have hlt':¬ (c:Int)<(b:Int):=by omega
      rw [z0W (a:=c) (by omega),List.append_nil] at hp
      have R:Aside (wr.ownsRow w.heap.size 79 2 u5 (SPAN a b).length (z05 (SPAN a b))∧Below w.heap.size w wr):=⟨by rw [← hp];exact hown,hbel⟩
      clear hg hc hp hown hbel A HA
      go_wp2
      go_ret
      exact ⟨u5,rfl,R.out.1,R.out.2⟩
end Go.Proofs.YthpdlnbbbcgemaaGreatDoor

namespace Go.Proofs.YthpdlnbbbcgemaaGreatDoor
open Go.RowKit
def Lie (w:World) (a:Option Addr) (l:List (Nat × Nat)):Prop:=0<l.length→∃ g o,a=some ⟨g,o,none⟩∧g<w.heap.size∧∀ (j h k:Nat),l[j]?=some (h,k)→w.cell? ⟨g,o+j*2,none⟩=some (.int .u8 (h:Int))∧w.cell? ⟨g,o+j*2+1,none⟩=some (.int .u64 (k:Int))
theorem Lie.below {w w':World} {a:Option Addr} {l:List (Nat × Nat)} (h:Lie w a l) (hb:Below w.heap.size w w'):Lie w' a l:=fun h0=>by
  obtain ⟨g,o,e,hg,hc⟩:=h h0
  exact ⟨g,o,e,Nat.lt_of_lt_of_le hg hb.size,fun j x y he=>⟨(hb.cell (p:=⟨g,o+j*2,none⟩) hg).trans (hc j x y he).1,(hb.cell (p:=⟨g,o+j*2+1,none⟩) hg).trans (hc j x y he).2⟩⟩
theorem Lie.of {w:World} {a:Option Addr} {l:List (Nat × Nat)} (h:Spots w a l):Lie w a l:=fun h0=>by
  obtain ⟨g,e,hg,hc⟩:=h h0
  refine ⟨g,0,e,hg,fun j x y he=>?_⟩
  rw [Nat.zero_add]
  exact hc j x y he
theorem zat {w:World} {base n:Nat} {v:Value} {l:List (Nat × Nat)} (hl:l.length=n) (h:w.ownsRow base 79 2 v n (z05 l)):∃ a cap,v=.slice a n cap∧Lie w a l:=by
  obtain ⟨a,cap,e,hs⟩:=z2g hl h
  exact ⟨a,cap,e,Lie.of hs⟩
theorem zfG {l:List (Nat × Nat)} {i h k:Nat} (e:l[i]?=some (h,k)):l=l.take i ++ (h,k) :: l.drop (i+1)∧l.take (i+1)=l.take i ++ [(h,k)]:=by
  obtain ⟨hi,e2⟩:=List.getElem?_eq_some_iff.1 e
  refine ⟨?_,?_⟩
  · rw [← e2,List.getElem_cons_drop,List.take_append_drop]
  · rw [List.take_add_one,e]
    rfl
theorem at_lt {l:List (Nat × Nat)} {i:Nat} (h:i<l.length):∃ x y,l[i]?=some (x,y):=⟨_,_,List.getElem?_eq_getElem h⟩
end Go.Proofs.YthpdlnbbbcgemaaGreatDoor

namespace Go.Proofs.YthpdlnbbbcgemaaGreatDoor
open Go.RowKit
def z0i (PK:List Nat) (S:List (Nat × Nat)) (j:Nat):List Nat:=PK ++ PLCS (S.take j)
theorem z7p {w:World} {v:Value} {g gp:Nat} (hne:v.ownBlock≠some gp) (hgp:gp<w.heap.size) (hat:v.ownBlock=some g∨g=w.heap.size):some g≠some gp:=by
  intro e
  have e:g=gp:=by simpa using e
  subst e
  rcases hat with h | h
  · exact hne h
  · omega
theorem z5H (m n:Int) (h:4611686018427387904<n∨n<m) (w:World):Calls Tryz.prog 50 #[.int .u64 m,.int .u64 n] w fun e w'=>e=.returned (.tuple #[.slice none 0 0,.int .i64 30])∧w=w':=by
  by_cases hd:4611686018427387904<n
  · clear h
    go_enter Tryz.func50,Tryz.ntmps50
    go_wp2
    go_ret2
    exact ⟨rfl,rfl⟩
  · have hm:n<m:=by omega
    clear h
    go_enter Tryz.func50,Tryz.ntmps50
    go_wp2
    go_ret2
    exact ⟨rfl,rfl⟩
theorem z7q {l:List (Nat × Nat)} {j h k:Nat} (e:l[j]?=some (h,k)):PLCS (l.take (j+1))=PLCS (l.take j) ++ [PLC h k]:=by
  rw [(zfG e).2,z5c]
  rfl
set_option maxHeartbeats 1000000 in
theorem z69 (m n:Nat) (hmn:m≤n) (hn:n≤4611686018427387904) (w:World) (hT:Tabled w) (h0:0<w.heap.size):Calls Tryz.prog 50 #[.int .u64 (m:Int),.int .u64 (n:Int)] w fun e w'=>
    ∃ v,e=.returned (.tuple #[v,.int .i64 0])∧w'.ownsRow w.heap.size 22 1 v (PLCS (PXS m n)).length (z0h (PLCS (PXS m n)))∧Below w.heap.size w w':=by
  have c1:=z8u m (by omega) w hT h0
  have hd:¬ (4611686018427387904:Int)<(n:Int):=by omega
  have hd2:¬ (n:Int)<(m:Int):=by omega
  have C3:Aside (∀ W,Below w.heap.size w W→Calls Tryz.prog 90 #[.int .u64 (m:Int),.int .u64 (n:Int)] W fun e w'=>∃ v,e=.returned v∧w'.ownsRow W.heap.size 79 2 v (SPAN m n).length (z05 (SPAN m n))∧Below W.heap.size W w'):=
    fun W h=>zfF m n (by omega) hn W (hT.below h0 h) (Nat.lt_of_lt_of_le h0 h.size)
  have hP:=z2p (n:=m) (by omega)
  have hP6:=z0O 64 m (by omega)
  have hS:=z1v (a:=m) hn
  have hnode:∀ j h k,(SPAN m n)[j]?=some (h,k)→Node h k:=fun j h k e=>(z0Y hn hmn).node e
  rw [z68 hmn hn]
  generalize z1G m=PK at *
  generalize PC m=P at *
  generalize SPAN m n=S at *
  obtain ⟨L,hL⟩:∃ L,S.length=L:=⟨_,rfl⟩
  rw [hL] at C3
  obtain ⟨X,hX⟩:∃ X,PK ++ PLCS S=X:=⟨_,rfl⟩
  rw [hX]
  obtain ⟨N,hN⟩:∃ N,X.length=N:=⟨_,rfl⟩
  rw [hN]
  have HX:Aside (z0i PK S L=X∧X.length=N):=⟨by rw [← hX,← hL];simp [z0i],hN⟩
  clear hX hN
  have HA:Aside (PK.length=P∧P≤64∧S.length=L∧L≤124∧∀ j h k,S[j]?=some (h,k)→Node h k):=⟨hP,hP6,hL,by omega,hnode⟩
  clear hP hP6 hS hL hnode hT h0 hmn hn
  go_enter Tryz.func50,Tryz.ntmps50
  go_wp2_with fail
  refine c1.mono ?_
  rintro e w1 ⟨g,cap,rfl,hown,hb⟩
  clear c1
  have R1:Aside (w1.ownsRow w.heap.size 22 1 (.slice (some ⟨g,0,none⟩) P cap) P (z0h PK)∧Below w.heap.size w w1∧g<w1.heap.size):=⟨hown,hb,(hown.lt g rfl).2⟩
  clear hown hb
  go_wp2_with fail
  refine (C3.out _ R1.out.2.1).mono ?_
  rintro e w2 ⟨v,rfl,hrow,hb2⟩
  obtain ⟨ga,capp,rfl,hsp⟩:=z2g HA.out.2.2.1 hrow
  have R2:Aside (w2.ownsRow w.heap.size 22 1 (.slice (some ⟨g,0,none⟩) P cap) (z0i PK S 0).length (z0h (z0i PK S 0))∧Below w.heap.size w w2∧(∀ k,(Value.slice ga L capp).ownBlock=some k→some g≠some k)∧w2.ownsRow w1.heap.size 79 2 (.slice ga L capp) L (z05 S)):=by
    obtain ⟨a1,a2,a3⟩:=R1.out
    refine ⟨?_,a2.trans (hb2.mono a2.size),fun k hk e=>?_,hrow⟩
    · have:(z0i PK S 0)=PK:=by simp [z0i,PLCS]
      rw [this,HA.out.1]
      exact z0q a1 hb2
    · have e:g=k:=by simpa using e
      have:=(hrow.lt k hk).1
      omega
  clear R1 hrow hb2 C3 hsp
  go_wp2
  go_loopg [6,24] L (fun q s6 s24 wx=>∃ j:Nat,s24=.int .i64 (j:Int)∧Aside (j+q=L∧wx.ownsRow w.heap.size 22 1 s6 (z0i PK S j).length (z0h (z0i PK S j))∧Below w.heap.size w wx∧(∀ k,(Value.slice ga L capp).ownBlock=some k→s6.ownBlock≠some k)∧wx.ownsRow w1.heap.size 79 2 (.slice ga L capp) L (z05 S)))
  case atStart=>exact ⟨0,rfl,by omega,R2.out⟩
  case round=>
    obtain ⟨j,rfl,A1⟩:=hrel
    clear R2
    cases gk with
    | zero=>
      obtain ⟨hj,hown,hbel,hne,hrow⟩:=A1.out
      obtain rfl:j=L:=by omega
      have hlt:¬ (j:Int)<(j:Int):=by omega
      have R:Aside (wr.ownsRow w.heap.size 22 1 u6 N (z0h X)∧Below w.heap.size w wr):=by
        rw [HX.out.1,HX.out.2] at hown
        exact ⟨hown,hbel⟩
      clear hj hown hbel hne hrow A1 HA
      go_wp2
      go_ret2
      exact ⟨_,rfl,R.out.1,R.out.2⟩
    | succ q=>
      obtain ⟨hj,hown,hbel,hne,hrow⟩:=A1.out
      obtain ⟨a1,a2,a3,a4,a5⟩:=HA.out
      have hlt:(j:Int)<(L:Int):=by omega
      obtain ⟨ga',cap2,ee,hsp⟩:=z2g a3 hrow
      cases ee
      obtain ⟨gs,rfl,hgs,hcs⟩:=hsp (by omega)
      obtain ⟨h,k,eh⟩:=at_lt (l:=S) (i:=j) (by omega)
      obtain ⟨hy0,hy1⟩:=hcs j h k eh
      have hN:=a5 j h k eh
      have cp:=fun w=>zdZ h k hN w
      have hnx:z0i PK S (j+1)=z0i PK S j ++ [PLC h k]:=by
        unfold z0i
        rw [z7q eh,List.append_assoc]
      have hll:(z0i PK S j).length≤188:=by
        unfold z0i
        rw [List.length_append,z0N,List.length_take]
        omega
      generalize PLC h k=y at *
      have e1:wrap64 ((j:Int)+1)=((j+1:Nat):Int):=by unfold wrap64;omega
      have hne':=hne gs rfl
      have R:Aside (j+1+q=L∧wr.ownsRow w.heap.size 22 1 u6 (z0i PK S j).length (z0h (z0i PK S j))∧Below w.heap.size w wr∧u6.ownBlock≠some gs∧wr.ownsRow w1.heap.size 79 2 (.slice (some ⟨gs,0,none⟩) L capp) L (z05 S)∧z0i PK S (j+1)=z0i PK S j ++ [y]∧(z0i PK S j).length≤1000):=⟨by omega,hown,hbel,hne',hrow,hnx,by omega⟩
      clear hj hown hbel hne hrow a1 a2 a3 a4 a5 A1 hnx hll hne' hN eh hcs hgs hsp
      go_wp2_with fail
      refine (cp _).mono ?_
      rintro e w3 ⟨rfl,hb3⟩
      clear cp hy0 hy1
      have R2:Aside (w3.ownsRow w.heap.size 22 1 u6 (z0i PK S j).length (z0h (z0i PK S j))∧Below w.heap.size w w3∧w3.ownsRow w1.heap.size 79 2 (.slice (some ⟨gs,0,none⟩) L capp) L (z05 S)):=by
        obtain ⟨r1,r2,r3,r4,r5,r6,r7⟩:=R.out
        exact ⟨z0q (r2.alloc _) hb3,(r3.alloc r3.size _).trans (hb3.mono (by have:=r3.size;simp;omega)),z0q (r5.alloc _) hb3⟩
      clear hb3
      go_wp2_with (at_builtin;refine z8C _ rfl (.tmp 33) (.tmp 35) rfl w.heap.size u6 _ (z0h (z0i PK S j)) rfl (R2.out.1.alloc _) w3.heap.size 1 (y:Int) rfl (by rw [World.cell?_alloc_at _ _ _ _ rfl];rfl) R.out.2.2.2.2.2.2 (by have:=R2.out.2.1.size;simp;omega) ?_;intro g' cap' w4 hown hgrow hat hg)
      have R3:Aside (j+1+q=L∧w4.ownsRow w.heap.size 22 1 (.slice (some ⟨g',0,none⟩) ((z0i PK S j).length+1) cap') (z0i PK S (j+1)).length (z0h (z0i PK S (j+1)))∧Below w.heap.size w w4∧(∀ k,(Value.slice (some ⟨gs,0,none⟩) L capp).ownBlock=some k→some g'≠some k)∧w4.ownsRow w1.heap.size 79 2 (.slice (some ⟨gs,0,none⟩) L capp) L (z05 S)):=by
        obtain ⟨r1,_,_,r4,_,r6,r7⟩:=R.out
        obtain ⟨r2,r3,r5⟩:=R2.out
        have hgp:=r5.lt gs rfl
        refine ⟨r1,?_,(r3.alloc r3.size _).grown hgrow (by have:=r3.size;simp;omega) (fun k e=>(r2.lt k e).1),fun k hk=>?_,(r5.alloc _).kept hgrow (.inr fun e=>r4 e.symm)⟩
        · rw [r6,z2G,List.length_append]
          exact hown
        · cases hk
          exact z7p r4 (by simp;omega) hat
      clear R R2 hown hgrow hat hg
      go_wp2
      go_roundg q
      case measure=>omega
      case rel=>exact ⟨j+1,by first | rfl | (rw [e1]),R3.out⟩
end Go.Proofs.YthpdlnbbbcgemaaGreatDoor

namespace Go.Proofs.YthpdlnbbbcgemaaGreatDoor
open Go.RowKit
set_option maxRecDepth 100000
def Flat (w:World) (a:Option Addr) (n:Nat) (l:List Int):Prop:=
  l.length=32*n∧(0<n→∃ b o,a=some ⟨b,o,none⟩∧b<w.heap.size∧∀ j,j<32*n→w.cell? ⟨b,o+j,none⟩=some (.int .u8 (l.getD j 0)))∧∀ x∈l,0≤x∧x≤255
theorem Flat.below {w w':World} {a:Option Addr} {n:Nat} {l:List Int} (h:Flat w a n l) (hb:Below w.heap.size w w'):Flat w' a n l:=
  ⟨h.1,fun hn=>by
    obtain ⟨b,o,e,hl,hc⟩:=h.2.1 hn
    exact ⟨b,o,e,Nat.lt_of_lt_of_le hl hb.size,fun i hi=>(hb.cell (by exact hl)).trans (hc i hi)⟩,h.2.2⟩
def HSH (l:List Int) (i:Nat):List Int:=(l.drop (32*i)).take 32
theorem z0U {l:List Int} {n i:Nat} (hl:l.length=32*n) (hi:i<n):(HSH l i).length=32:=by
  unfold HSH
  rw [List.length_take,List.length_drop]
  omega
theorem z8D {l:List Int} {i j:Nat} (hj:j<32):(HSH l i).getD j 0=l.getD (32*i+j) 0:=by
  unfold HSH
  rw [List.getD_eq_getElem?_getD,List.getElem?_take,if_pos hj,List.getElem?_drop,List.getD_eq_getElem?_getD]
theorem zfH {l:List Int} {i:Nat} {x:Int} (h:x∈HSH l i):x∈l:=List.mem_of_mem_drop (List.mem_of_mem_take h)
theorem z3e (l:List Int) (i:Nat):l.take (32*(i+1))=l.take (32*i) ++ HSH l i:=by
  unfold HSH
  rw [show 32*(i+1)=32*i+32 by omega,List.take_add]
theorem z5f:(Tryz.prog.info? 24).map (·.size)=some 32:=by kernel_rfl
theorem z0f {h:List Int} (hl:h.length=32):(Tryz.prog.info? 24).map (·.size)=some (z01 h).length:=by
  rw [z5f,show (z01 h).length=32 by simp [z01,hl]]
theorem z02 {h:List Int} (hl:h.length=32):(Tryz.prog.info? 24).map (·.size)=some (z01 h).toArray.size:=by
  rw [z5f,show (z01 h).toArray.size=32 by simp [z01,hl]]
theorem z0m (h:List Int):(z01 h).toArray.all (·.oneCell')=true:=by
  rw [Array.all_eq_true_iff_forall_mem]
  intro v hv
  exact z1n h v (by simpa using hv)
theorem Flat.at {w:World} {b o n:Nat} {l:List Int} {i:Nat} (h:Flat w (some ⟨b,o,none⟩) n l) (hi:i<n):w.rangeAt b (o+i*32) (z01 (HSH l i)):=by
  intro j v hv
  obtain ⟨b',o',e,_,hc⟩:=h.2.1 (by omega)
  simp only [Option.some.injEq,Addr.mk.injEq] at e
  obtain ⟨rfl,rfl,_⟩:=e
  have hj:j<32:=by
    have:=(List.getElem?_eq_some_iff.1 hv).1
    rw [show (z01 (HSH l i)).length=32 by simp [z01,z0U h.1 hi]] at this
    exact this
  rw [z0A _ _ (by rw [z0U h.1 hi];exact hj),z8D hj] at hv
  rw [show o+i*32+j=o+(32*i+j) by omega,hc _ (by omega)]
  exact hv
theorem z6Z (w:World) (x:Int):(w.alloc (.cells #[.int .u8 x] 5)).ownsRow w.heap.size 5 1 (.slice (some ⟨w.heap.size,0,none⟩) 1 1) 1 (z01 [x]):=
  World.ownsRow_lit w #[.int .u8 x] 1 (Nat.le_refl _) (by simp [maxLen]) rfl
end Go.Proofs.YthpdlnbbbcgemaaGreatDoor

namespace Go.Proofs.YthpdlnbbbcgemaaGreatDoor
open Go.RowKit
set_option maxRecDepth 100000
def PPA (m n:Nat):Int × List Nat:=if 4611686018427387904<n∨n<m then (30,[]) else (0,PLCS (PXS m n))
theorem z70 (m n:Nat):(PPA m n).2.length≤188:=by
  unfold PPA
  split
  · simp
  · have:=z20 (m:=m) (n:=n) (by omega) (by omega)
    simp only [z0N]
    omega
theorem zau (w:World):w.ownsRow w.heap.size 22 1 (.slice none 0 0) ([]:List Nat).length (z0h []):=World.ownsRow_nil _ _ _ _
theorem z4C (m n:Nat) (w:World) (hT:Tabled w) (h0:0<w.heap.size):Calls Tryz.prog 50 #[.int .u64 (m:Int),.int .u64 (n:Int)] w fun e w'=>
    ∃ v,e=.returned (.tuple #[v,.int .i64 (PPA m n).1])∧w'.ownsRow w.heap.size 22 1 v (PPA m n).2.length (z0h (PPA m n).2)∧Below w.heap.size w w':=by
  unfold PPA
  split
  · refine (z5H _ _ (by omega) w).mono ?_
    rintro e w' ⟨rfl,rfl⟩
    exact ⟨_,rfl,zau w,Below.refl _ _⟩
  · exact z69 m n (by omega) (by omega) w hT h0
def ENCB (k E:Int) (P n X Y:Nat) (l:List Int):Int × List Int:=if E≠0 then (E,[]) else if n≠P then (70,[]) else (0,k :: (z0w X ++ z0w Y ++ l))
def ENX (F S n:Nat) (l:List Int):Int × List Int:=ENCB 80 (PPA F S).1 (PPA F S).2.length n F S l
theorem z6a (w:World) (b:Nat):w.ownsRow b 5 1 (.slice none 0 0) ([]:List Int).length (z01 []):=World.ownsRow_nil _ _ _ _
def ANSB (w:World) (A:Int × List Int) (e:Ending) (w':World):Prop:=∃ v,e=.returned (.tuple #[v,.int .i64 A.1])∧w'.ownsRow w.heap.size 5 1 v A.2.length (z01 A.2)∧Below w.heap.size w w'
end Go.Proofs.YthpdlnbbbcgemaaGreatDoor
