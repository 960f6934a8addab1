/- ProofMakes: part 23. -/
import Derived.Test.YthmnailmbgondaaGreatDoorProofMakesP22
set_option maxHeartbeats 1000000
namespace Go.Proofs.YthmnailmbgondaaGreatDoor
open Go.RowKit
def Nums (w:World) (v:Value) (l:List Nat):Prop:=∃ a cap,v=.slice a l.length cap/\(0<l.length->∃ g,a=some ⟨g,0,none⟩/\g<w.heap.size/\∀ (j:Nat),j<l.length->w.cell? ⟨g,j,none⟩=some (.int .u64 ((l.getD j 0:Nat):Int)))
theorem Nums.below {w w':World} {v:Value} {l:List Nat} {B:Nat} (h:Nums w v l) (hb:Below B w w') (hB:w.heap.size<=B):Nums w' v l:=by
 obtain ⟨a,cap,rfl,h⟩:=h;refine ⟨a,cap,rfl,fun h0=>?_⟩;obtain ⟨g,e,hg,hc⟩:=h h0;exact ⟨g,e,Nat.lt_of_lt_of_le hg hb.size,fun j hj=>(hb.cell (p:=⟨g,j,none⟩) (Nat.lt_of_lt_of_le hg hB)).trans (hc j hj)⟩
theorem z8P {w:World} {base:Nat} {v:Value} {l:List Nat} (h:w.ownsRow base 24 1 v l.length (z06 l)):Nums w v l:=by
 rcases h.2 with ⟨rfl,h0⟩ | ⟨g,cap,cur,rfl,hb,hg,r⟩
 ·rw [List.length_eq_zero_iff] at h0
  subst h0;exact ⟨none,0,rfl,fun h=>absurd h (by simp)⟩
 ·exact ⟨_,cap,rfl,fun h0=>⟨g,rfl,(Array.getElem?_eq_some_iff.1 hg).1,fun j hj=>z8O h j hj⟩⟩
structure Four (w:World) (B:Nat) (K:Nat->Prop) (v:Nat->Value) (n:Nat->Nat) (xs:Nat->List Value):Prop where
 row:∀ x,x<4->w.ownsRow B 24 1 (v x) (n x) (xs x)
 apart:∀ x y,x<4->y<4->x≠y->∀ g,(v x).ownBlock=some g->(v y).ownBlock≠some g
 off:∀ x,x<4->∀ g,(v x).ownBlock=some g->¬ K g
def UPD {α:Type} (f:Nat->α) (x:Nat) (a:α):Nat->α:=fun z=>if z=x then a else f z
theorem z2F {α:Type} (f:Nat->α) (x:Nat) (a:α):UPD f x a x=a:=by simp [UPD]
theorem z1f {α:Type} (f:Nat->α) {x z:Nat} (a:α) (h:z≠x):UPD f x a z=f z:=by simp [UPD,h]
theorem Four.alloc {w:World} {B:Nat} {K:Nat->Prop} {v:Nat->Value} {n:Nat->Nat} {xs:Nat->List Value} (h:Four w B K v n xs) (o:Obj):Four (w.alloc o) B K v n xs:=⟨fun x hx=>(h.row x hx).alloc o,h.apart,h.off⟩
theorem Four.more {w:World} {B:Nat} {K K':Nat->Prop} {v:Nat->Value} {n:Nat->Nat} {xs:Nat->List Value} (h:Four w B K v n xs) (hK:∀ g,g<w.heap.size->K' g->K g):Four w B K' v n xs:=
 ⟨h.row,h.apart,fun x hx g hg hk=>h.off x hx g hg (hK g ((h.row x hx).lt g hg).2 hk)⟩
theorem Four.below {w w':World} {B:Nat} {K:Nat->Prop} {v:Nat->Value} {n:Nat->Nat} {xs:Nat->List Value} (h:Four w B K v n xs) (hb:Below w.heap.size w w'):Four w' B K v n xs:=⟨fun x hx=>z0s (h.row x hx) hb,h.apart,h.off⟩
theorem z10 (W:World) (b j:Nat) (v:Value):W.grownBy (W.setCell ⟨b,j,none⟩ v) (some b):=
 ⟨rfl,rfl,rfl,(KeepsWalks.setCell W _ v).size,fun k _ hk=>Below.heap_setCell _ _ _ k (fun e=>hk (by rw [e]))⟩
theorem Four.other {w:World} {B:Nat} {K:Nat->Prop} {v:Nat->Value} {n:Nat->Nat} {xs:Nat->List Value} (h:Four w B K v n xs) {b:Nat} (hb:K b) (j:Nat) (u:Value):Four (w.setCell ⟨b,j,none⟩ u) B K v n xs:=
 ⟨fun x hx=>(h.row x hx).kept (z10 w b j u) (.inr fun e=>h.off x hx b e hb),h.apart,h.off⟩
theorem Four.store {w:World} {B:Nat} {K:Nat->Prop} {v:Nat->Value} {n:Nat->Nat} {xs:Nat->List Value} (h:Four w B K v n xs) {x g m cap:Nat} (hx:x<4) (hv:v x=.slice (some ⟨g,0,none⟩) m cap) (j:Nat) (u:Value):
  Four (w.setCell ⟨g,j,none⟩ u) B K v n (UPD xs x ((xs x).set j u)):=by
 refine ⟨fun z hz=>?_,h.apart,h.off⟩;by_cases e:z=x
 ·subst e
  have hr:=h.row z hz;rw [hv] at hr ⊢
  have hm:m=n z:=by
   rcases hr.2 with ⟨e,_⟩ | ⟨_,_,_,e,_⟩
   ·simp at e
   ·simp at e
    omega
  subst hm;rw [z2F];exact (hr.stored j u).1
 ·rw [z1f xs _ e]
  refine (h.row z hz).kept (z10 w g j u) (.inr fun e2=>?_);exact h.apart x z hx hz (fun e3=>e e3.symm) g (by rw [hv];rfl) e2
theorem z4P {w:World} {B n:Nat} {v:Value} {xs:List Value} (h:w.ownsRow B 24 1 v n xs):∃ a cap,v=.slice a n cap/\(0<n->∃ g,a=some ⟨g,0,none⟩/\g<w.heap.size/\B<=g):=by
 rcases h.2 with ⟨rfl,h0⟩ | ⟨g,cap,cur,rfl,hb,hg,r⟩
 ·subst h0
  exact ⟨none,0,rfl,fun h=>by omega⟩
 ·exact ⟨_,cap,rfl,fun _=>⟨g,rfl,(Array.getElem?_eq_some_iff.1 hg).1,hb⟩⟩
theorem z4d {ops:Array Oper} {rest:List Oper} {o:Oper} {a:Act} {Q:Exit->Act->World->Prop} (w:World) (hgd:o.guard=none) (s x:Operand)
   (ho:o.op=.call {callee:=.builtin .append,args:=#[s,x],argTypes:=#[23,23]})
   (base:Nat) (v:Value) (n:Nat) (xs:List Value) (hs:a.eval s=v) (hown:w.ownsRow base 24 1 v n xs)
   (b c:Nat) (y:Int) (hx:a.eval x=.slice (some ⟨b,0,none⟩) 1 c) (hc:w.cell? ⟨b,0,none⟩=some (.int .u64 y))
   (hb:n<=1000) (hbase:base<=w.heap.size)
   (h:∀ g cap w',w'.ownsRow base 24 1 (.slice (some ⟨g,0,none⟩) (n+1) cap) (n+1) (xs ++ [.int .u64 y])->w.grownBy w' v.ownBlock->(v.ownBlock=some g\/g=w.heap.size)->g<w'.heap.size->wpList Tryz.prog ops Q rest (a.put o.dst (.slice (some ⟨g,0,none⟩) (n+1) cap)) w'):wpList Tryz.prog ops Q (o :: rest) a w:=by
 obtain ⟨i,hi,hz,hs1,hby⟩:=info_parts z24;refine wpList_append_lies w hgd s x 23 ho base 24 i (.int .u64 0) 1 8 Tryz.underlying23 hi hz hs1 hby rfl (by decide) v n xs hs hown ⟨b,0,none⟩ 1 c [.int .u64 y] hx rfl ?_ (fun u hu=>by simp at hu;subst hu;rfl) (by decide) (by simp only [maxLen];omega) (by omega) hbase w.heap.size rfl h;intro j u hj;cases j with
 | zero=>
   simp only [List.getElem?_cons_zero,Option.some.injEq] at hj;subst hj;exact hc
 | succ j=>simp at hj
theorem Has.grown {w w':World} {g:Nat} {c:Array Value} {t:TypeId} {row:Option Nat} (h:Has w g c t) (hg:w.grownBy w' row) (hne:row≠some g):Has w' g c t:=by
 obtain ⟨_,_,_,_,hk⟩:=hg;exact (hk g h.lt (fun e=>hne e.symm)).trans h
theorem Four.of {w:World} {B b1 b2 b3 b4:Nat} {K:Nat->Prop} {v0 v1 v2 v3:Value} {n m:Nat} {xs ys:List Value} (h0:w.ownsRow B 24 1 v0 n xs) (h1:w.ownsRow b1 24 1 v1 n xs) (h2:w.ownsRow b2 24 1 v2 m ys) (h3:w.ownsRow b3 24 1 v3 m ys)
  (l0:∀ k,v0.ownBlock=some k->k<b1) (l1:∀ k,v1.ownBlock=some k->k<b2) (l2:∀ k,v2.ownBlock=some k->k<b3) (l3:∀ k,v3.ownBlock=some k->k<b4) (o1:B<=b1) (o2:b1<=b2) (o3:b2<=b3) (o4:b3<=b4) (hK:∀ k,K k->b4<=k):
  ∃ (V:Nat->Value) (N:Nat->Nat) (XS:Nat->List Value),Four w B K V N XS/\V 0=v0/\V 1=v1/\V 2=v2/\V 3=v3/\(∀ x,x<4->N x=n\/N x=m):=by
 have key:∀ x,x<4->x=0\/x=1\/x=2\/x=3:=fun x hx=>by omega
 have bnd:∀ x,x<4->∀ k,((if x=0 then v0 else if x=1 then v1 else if x=2 then v2 else v3:Value)).ownBlock=some k->(if x=0 then B else if x=1 then b1 else if x=2 then b2 else b3)<=k/\k<(if x=0 then b1 else if x=1 then b2 else if x=2 then b3 else b4):=fun x hx k hk=>by
  rcases key x hx with rfl | rfl | rfl | rfl
  ·exact ⟨(h0.lt k hk).1,l0 k hk⟩
  ·exact ⟨(h1.lt k hk).1,l1 k hk⟩
  ·exact ⟨(h2.lt k hk).1,l2 k hk⟩
  ·exact ⟨(h3.lt k hk).1,l3 k hk⟩
 refine ⟨fun x=>if x=0 then v0 else if x=1 then v1 else if x=2 then v2 else v3,fun x=>if x<2 then n else m,fun x=>if x<2 then xs else ys,⟨fun x hx=>?_,fun x y hx hy hne k hk hk2=>?_,fun x hx k hk hkk=>?_⟩,rfl,rfl,rfl,rfl,fun x hx=>?_⟩
 ·rcases key x hx with rfl | rfl | rfl | rfl
  ·exact h0
  ·exact z0P h1 o1
  ·exact z0P h2 (Nat.le_trans o1 o2)
  ·exact z0P h3 (Nat.le_trans o1 (Nat.le_trans o2 o3))
 ·have hx':=bnd x hx k hk
  have hy':=bnd y hy k hk2;rcases key x hx with rfl | rfl | rfl | rfl <;> rcases key y hy with rfl | rfl | rfl | rfl <;> simp at hx' hy' hne <;> omega
 ·have hx':=bnd x hx k hk
  have:=hK k hkk;rcases key x hx with rfl | rfl | rfl | rfl <;> simp at hx' <;> omega
 ·rcases key x hx with rfl | rfl | rfl | rfl <;> simp
theorem zgp (X:Nat) (hX:X<2 ^ 64):∃ t:Nat,t<=64/\(X=0->t=64)/\(∀ h,h<=64->(X % 2 ^ h=0↔h<=t))/\∀ w,Tabled w->Calls Tryz.prog 109 #[.int .u64 (X:Int)] w fun e w'=>e=.returned (.int .i64 (t:Int))/\w=w':=by
 by_cases h0:X=0
 ·subst h0
  exact ⟨64,Nat.le_refl _,fun _=>rfl,fun h hh=>by simp [hh],fun w _=>z6Y _ _ w (zg8 w)⟩
 ·obtain ⟨t,q,e⟩:=z7s X h0
  have ht:=(z6X hX e).2;refine ⟨t,by omega,fun c=>absurd c h0,?_,fun w hT=>z6Y _ _ w (zfK X t q hX e w hT)⟩;intro h _;constructor
  ·intro hm
   rcases Nat.lt_or_ge t h with c | c
   ·have h1:2 ^ (t+1) ∣ 2 ^ h:=Nat.pow_dvd_pow 2 c
    have h2:X % 2 ^ (t+1)=0:=Nat.mod_eq_zero_of_dvd (Nat.dvd_trans h1 (Nat.dvd_of_mod_eq_zero hm));rw [e,Nat.mul_comm] at h2;have:=z3J.1 h2;omega
   ·exact c
  ·intro hm
   have h1:2 ^ h ∣ 2 ^ t:=Nat.pow_dvd_pow 2 hm;exact Nat.mod_eq_zero_of_dvd (Nat.dvd_trans h1 ⟨_,e⟩)
theorem zhj {a b t:Nat} (hab:a<b) (hb:b<=4611686018427387904) (ht:t<=64) (hd:∀ h,h<=64->(a % 2 ^ h=0↔h<=t)):min (t:Int) ((LEN (b - a):Nat) - 1:Int)=((HT a b:Nat):Int):=by
 obtain ⟨l1,l2,l3⟩:=z5F (b - a) (by omega) (by omega)
 have l4:LEN (b - a) - 1<=62:=by
  rcases Nat.lt_or_ge 62 (LEN (b - a) - 1) with h | h
  ·have:2 ^ 63<=2 ^ (LEN (b - a) - 1):=Nat.pow_le_pow_right (by decide) h
   omega
  ·exact h
 have:min t (LEN (b - a) - 1)=HT a b:=by
  refine z72 hab hb ⟨(hd _ (by omega)).2 (by omega),?_⟩ ?_
  ·have:2 ^ min t (LEN (b - a) - 1)<=2 ^ (LEN (b - a) - 1):=Nat.pow_le_pow_right (by decide) (by omega)
   omega
  ·intro c
   rcases Nat.lt_or_ge t (LEN (b - a) - 1) with h | h
   ·have:=(hd _ (by omega)).1 c.1
    omega
   ·have h1:=c.2
    have:2 ^ LEN (b - a)<=2 ^ (min t (LEN (b - a) - 1)+1):=Nat.pow_le_pow_right (by decide) (by omega);omega
 rw [<-this];omega
theorem zgq (h k:Nat) (s r:Int) (w:World) (e1:IntKind.u64.wrap ((k:Int)+1)=s) (e:IntKind.u64.wrap (s*2 ^ min h 64)=r):Calls Tryz.prog 110 #[SPOT h k] w fun e w'=>e=.returned (.int .u64 r)/\Below w.heap.size w w':=by
 subst e;go_enter Tryz.func110,Tryz.ntmps110;go_wp2;go_ret;exact ⟨rfl,(Below.refl _ _).alloc (Nat.le_refl _) _⟩
theorem zhk (h k:Nat) (hN:Node h k) (w:World):Calls Tryz.prog 110 #[SPOT h k] w fun e w'=>e=.returned (.int .u64 (((k+1)*2 ^ h:Nat):Int))/\Below w.heap.size w w':=by
 have h1:=hN.span;have h3:=hN.index_lt;refine zgq h k ((k+1:Nat):Int) _ w (by rw [z0b];omega) ?_;exact z8D (k+1) h hN.1 (by omega)
theorem Has.grew {w w':World} {g:Nat} {c:Array Value} {t:TypeId} {row:Option Nat} (h:Has w g c t) (hg:w.grownBy w' row) (hne:row≠some g):Has w' g c t:=by
 obtain ⟨_,_,_,_,hk⟩:=hg;exact (hk g h.lt (fun e=>hne e.symm)).trans h
theorem zf7 {wr w1:World} {c:Array Value} {t t':TypeId} {base s n:Nat} {v:Value} {xs:List Value} {o:Obj} (hown:wr.ownsRow base t' s v n xs) (hgrow:((wr.alloc (.cells c t)).alloc o).grownBy w1 v.ownBlock):Has w1 wr.heap.size c t:=
 ((Has.new wr c t).alloc o).grew hgrow (fun e=>by have:=(hown.lt _ e).2;omega)
theorem zgr (a b:Nat) (ha:a<2 ^ 64) (hb:b<=4611686018427387904) (w:World) (hT:Tabled w) (h0:0<w.heap.size):Calls Tryz.prog 76 #[.int .u64 (a:Int),.int .u64 (b:Int)] w fun e w'=>
  ∃ v,e=.returned v/\w'.ownsRow w.heap.size 101 2 v (SPAN a b).length (z0k (SPAN a b))/\Below w.heap.size w w':=by
 have HA:Aside (b<=4611686018427387904/\Tabled w/\0<w.heap.size):=⟨hb,hT,h0⟩
 have hd:¬ (4611686018427387904:Int)<(b:Int):=by omega
 clear hT h0;go_enter Tryz.func76,Tryz.ntmps76;go_wp2;go_loopg [0,5] (b - a) (fun g s0 s5 wx=>∃ (c:Nat) (pre:List (Nat × Nat)),s0=.int .u64 (c:Int)/\Aside (g=b - c/\c<2 ^ 64/\pre ++ SPAN c b=SPAN a b/\wx.ownsRow w.heap.size 101 2 s5 pre.length (z0k pre)/\Below w.heap.size w wx))
 case atStart=>exact ⟨a,[],rfl,rfl,ha,rfl,World.ownsRow_nil _ _ _ _,Below.refl _ _⟩
 case round=>
  obtain ⟨c,pre,rfl,A⟩:=hrel;obtain ⟨hg,hc,hp,hown,hbel⟩:=A.out;by_cases hlt:c<b
  ·have hlt':(c:Int)<(b:Int):=by omega
   obtain ⟨t,ht,_,hd2,cl⟩:=zgp c hc;have hm:=zhj hlt hb ht hd2;have ch:=z71 (b - c) (by omega);obtain ⟨s1,s2,s3⟩:=z2Y hlt hb;obtain ⟨n1,n2,n3⟩:=s2.node s1 hb;have es:IntKind.u64.wrap ((b:Int) - (c:Int))=((b - c:Nat):Int):=by rw [z0b];omega
   replace cl:=cl wr (HA.out.2.1.below HA.out.2.2 hbel);have ce:=fun w=>zhk (HT c b) (c / 2 ^ HT c b) n1 w;rw [n3] at ce;have hsp:=z1Q hlt;have e8:((HT c b:Nat):Int) % 256=((HT c b:Nat):Int):=by omega
   have e9:(c:Int) / 2 ^ min (HT c b) 64=((c / 2 ^ HT c b:Nat):Int):=by rw [show min (HT c b) 64=HT c b by omega,z21]
   have hpos:=Nat.two_pow_pos (HT c b);have R:Aside (gk=b - c/\c<2 ^ 64/\pre ++ SPAN c b=SPAN a b/\wr.ownsRow w.heap.size 101 2 u5 pre.length (z0k pre)/\Below w.heap.size w wr/\c+2 ^ HT c b<=b/\0<2 ^ HT c b/\pre.length<=1000/\SPAN c b=(HT c b,c / 2 ^ HT c b) :: SPAN (c+2 ^ HT c b) b):=⟨hg,hc,hp,hown,hbel,s2.2,hpos,by have:=congrArg List.length hp;have:=z1Y (a:=a) hb;rw [List.length_append] at *;omega,hsp⟩
   have h0:¬ ((HT c b:Nat):Int)<0:=by omega
   obtain ⟨u,hu⟩:∃ u:Int,((LEN (b - c):Nat):Int) - 1=u:=⟨_,rfl⟩
   rw [hu] at hm ch;obtain ⟨H,hH⟩:∃ H,HT c b=H:=⟨_,rfl⟩
   obtain ⟨K,hK⟩:∃ K,c / 2 ^ H=K:=⟨_,rfl⟩
   obtain ⟨c',hc'⟩:∃ c',c+2 ^ H=c':=⟨_,rfl⟩
   rw [hH] at hm ce e8 e9 R h0;rw [hK] at ce e9 R;rw [hc'] at ce R
   have hcase:(H=t/\(H:Int)<=u)\/(u=(H:Int)/\¬ (t:Int)<=(H:Int)):=by
    rcases Int.le_total (t:Int) u with h | h
    ·rw [Int.min_eq_left h] at hm
     exact .inl ⟨by omega,by omega⟩
    ·rw [Int.min_eq_right h] at hm
     by_cases h2:(t:Int)=u
     ·exact .inl ⟨by omega,by omega⟩
     ·exact .inr ⟨by omega,by omega⟩
   have R2:Aside (c+2 ^ H=c'):=hc';clear hd2 ht s1 s2 s3 n1 n2 n3 hg hc hp hown hbel hm hu hH hK hc' hsp hpos A hlt;rcases hcase with ⟨rfl,hle⟩ | ⟨rfl,hle⟩
   all_goals
    go_wp2_with fail
    refine cl.mono ?_;rintro e w' ⟨rfl,rfl⟩;clear cl;go_wp2_with fail
    refine (ch _).mono ?_;rintro e w' ⟨rfl,rfl⟩;clear ch;go_wp2_with (at_builtin;refine z3c _ rfl (.tmp 26) (.tmp 28) rfl w.heap.size u5 pre.length pre rfl ((R.out.2.2.2.1.alloc _).alloc _) (wr.heap.size+1) 1 H K rfl ((Has.at _ _ _ (by simp)).cell 0) ((Has.at _ _ _ (by simp)).cell 1) R.out.2.2.2.2.2.2.2.1 (by have:=R.out.2.2.2.2.1.size;simp;omega) ?_;intro g' cap w1 hown hgrow hg;have hH1:=zf7 R.out.2.2.2.1 hgrow;have hx0:w1.cell? ⟨wr.heap.size,0,none⟩=some (.int .u8 (H:Int)):=hH1.cell 0;have hx1:w1.cell? ⟨wr.heap.size,1,none⟩=some (.int .u64 (K:Int)):=hH1.cell 1)
    obtain ⟨r1,r2,r3,r4,r5,r6,r7,r8,r9⟩:=R.out;have hr2:=R2.out;have R3:Aside (c'<2 ^ 64/\b - c'<gk/\(pre ++ [(H,K)]) ++ SPAN c' b=SPAN a b/\w1.ownsRow w.heap.size 101 2 (.slice (some ⟨g',0,none⟩) (pre.length+1) cap) (pre.length+1) (z0k (pre ++ [(H,K)]))/\Below w.heap.size w w1):=⟨by have:=HA.out.1;omega,by omega,by rw [<-r3,r9];simp,hown,((r5.alloc r5.size _).alloc (by have:=r5.size;simp;omega) _).grown hgrow (by have:=r5.size;simp;omega) (fun k e=>(r4.lt k e).1)⟩
    clear r1 r2 r3 r4 r5 r6 r7 r8 r9 hr2 hown R R2 hgrow hg;refine (ce _).mono ?_;rintro e w2 ⟨rfl,hb2⟩;clear ce hx0 hx1 hH1;go_wp2;go_roundg (b - c')
    case measure=>exact R3.out.2.1
    case rel=>
     obtain ⟨r1,r2,r3,r4,r5⟩:=R3.out;exact ⟨c',pre ++ [(H,K)],rfl,rfl,r1,r3,by rw [List.length_append];exact z0s r4 hb2,r5.trans (hb2.mono r5.size)⟩
  ·have hlt':¬ (c:Int)<(b:Int):=by omega
   rw [z1i (a:=c) (by omega),List.append_nil] at hp;have R:Aside (wr.ownsRow w.heap.size 101 2 u5 (SPAN a b).length (z0k (SPAN a b))/\Below w.heap.size w wr):=⟨by rw [<-hp];exact hown,hbel⟩
   clear hg hc hp hown hbel A HA;go_wp2;go_ret;exact ⟨u5,rfl,R.out.1,R.out.2⟩
def Lie (w:World) (a:Option Addr) (l:List (Nat × Nat)):Prop:=0<l.length->∃ g o,a=some ⟨g,o,none⟩/\g<w.heap.size/\∀ (j h k:Nat),l[j]?=some (h,k)->w.cell? ⟨g,o+j*2,none⟩=some (.int .u8 (h:Int))/\w.cell? ⟨g,o+j*2+1,none⟩=some (.int .u64 (k:Int))
theorem Lie.below {w w':World} {a:Option Addr} {l:List (Nat × Nat)} (h:Lie w a l) (hb:Below w.heap.size w w'):Lie w' a l:=fun h0=>by
 obtain ⟨g,o,e,hg,hc⟩:=h h0;exact ⟨g,o,e,Nat.lt_of_lt_of_le hg hb.size,fun j x y he=>⟨(hb.cell (p:=⟨g,o+j*2,none⟩) hg).trans (hc j x y he).1,(hb.cell (p:=⟨g,o+j*2+1,none⟩) hg).trans (hc j x y he).2⟩⟩
theorem Lie.of {w:World} {a:Option Addr} {l:List (Nat × Nat)} (h:Spots w a l):Lie w a l:=fun h0=>by
 obtain ⟨g,e,hg,hc⟩:=h h0;refine ⟨g,0,e,hg,fun j x y he=>?_⟩;rw [Nat.zero_add];exact hc j x y he
theorem Tile.same {l:List (Nat × Nat)}:∀ {a b a' b':Nat},l≠[]->Tile a l b->Tile a' l b'->a=a'/\b=b':=by
 have key:∀ (l:List (Nat × Nat)) (a b b':Nat),Tile a l b->Tile a l b'->b=b':=by
  intro l;induction l with
  | nil=>intro a b b' h h';exact Eq.trans (Eq.symm h) h'
  | cons s l ih=>intro a b b' h h';exact ih _ _ _ h.2.2 h'.2.2
 intro a b a' b' h0 h h';cases l with
 | nil=>exact absurd rfl h0
 | cons s l=>exact ⟨h.2.1.symm.trans h'.2.1,key l _ _ _ h.2.2 h'.2.2⟩
theorem z51 {l:List (Nat × Nat)} {i h k:Nat} (e:l[i]?=some (h,k)):l=l.take i ++ (h,k) :: l.drop (i+1)/\l.take (i+1)=l.take i ++ [(h,k)]:=by
 obtain ⟨hi,e2⟩:=List.getElem?_eq_some_iff.1 e;refine ⟨?_,?_⟩
 ·rw [<-e2,List.getElem_cons_drop,List.take_append_drop]
 ·rw [List.take_add_one,e]
  rfl
theorem at_lt {l:List (Nat × Nat)} {i:Nat} (h:i<l.length):∃ x y,l[i]?=some (x,y):=⟨_,_,List.getElem?_eq_getElem h⟩
def z0g (PK:List Nat) (S:List (Nat × Nat)) (j:Nat):List Nat:=PK ++ PLCS (S.take j)
theorem z9O (i n:Int) (hn:4611686018427387904<n) (w:World):Calls Tryz.prog 42 #[.int .u64 i,.int .u64 n] w fun e w'=>e=.returned (.tuple #[.slice none 0 0,.int .i64 30])/\w=w':=by
 go_enter Tryz.func42,Tryz.ntmps42;go_wp2;go_ret2;exact ⟨rfl,rfl⟩
theorem z8Q (i n:Int) (hn:¬ 4611686018427387904<n) (hi:¬ i<n) (w:World):Calls Tryz.prog 42 #[.int .u64 i,.int .u64 n] w fun e w'=>e=.returned (.tuple #[.slice none 0 0,.int .i64 32])/\w=w':=by
 have c:=zf5 i n (by omega);clear hi;go_enter Tryz.func42,Tryz.ntmps42;go_wp2_with fail
 refine (c _).mono ?_;rintro e w' ⟨rfl,rfl⟩;clear c;go_wp2;go_ret2;exact ⟨rfl,rfl⟩
theorem z3s {w:World} {v:Value} {g gp:Nat} (hne:v.ownBlock≠some gp) (hgp:gp<w.heap.size) (hat:v.ownBlock=some g\/g=w.heap.size):some g≠some gp:=by
 intro e;have e:g=gp:=by simpa using e
 subst e;rcases hat with h | h
 ·exact hne h
 ·omega
def z0l (A P:List Nat) (K j:Nat):List Nat:=A ++ (P.take j).eraseIdx K
theorem z6p (A P:List Nat) (K:Nat):z0l A P K 0=A:=by simp [z0l]
theorem z7D (A P:List Nat) (K:Nat):z0l A P K P.length=A ++ P.eraseIdx K:=by simp [z0l]
theorem z7E {P:List Nat} {j:Nat} (hj:j<P.length):P.take (j+1)=P.take j ++ [P.getD j 0]:=by
 rw [List.take_add_one,List.getD,List.getElem?_eq_getElem hj];rfl
theorem z6q (A P:List Nat) (K:Nat) (hK:K<P.length):z0l A P K (K+1)=z0l A P K K:=by
 unfold z0l;rw [z7E hK,z6k,if_pos (by rw [List.length_take];omega)]
theorem z6r (A P:List Nat) (K j:Nat) (hj:j<P.length) (hK:j≠K):z0l A P K (j+1)=z0l A P K j ++ [P.getD j 0]:=by
 unfold z0l;rw [z7E hj,z6k,if_neg (by rw [List.length_take];omega),List.append_assoc]
theorem z4Q (A P:List Nat) (K j:Nat):(z0l A P K j).length<=A.length+P.length:=by
 unfold z0l;rw [List.length_append];have h1:=List.length_eraseIdx_le (P.take j) K;have h2:=List.length_take_le' j P;omega
theorem zdp (i n:Nat) (hi:i<n) (hn:n<=4611686018427387904) (w:World) (hT:Tabled w) (h0:0<w.heap.size):Calls Tryz.prog 42 #[.int .u64 (i:Int),.int .u64 (n:Int)] w fun e w'=>
    ∃ v,e=.returned (.tuple #[v,.int .i64 0])/\w'.ownsRow w.heap.size 24 1 v (PLCS (PSP i n)).length (z06 (PLCS (PSP i n)))/\Below w.heap.size w w':=by
  have c1:=zgm i n hi hn w;have c2:=zgl i n hi hn;have hd:¬ (4611686018427387904:Int)<(n:Int):=by omega
  have C3:Aside (∀ W,Below w.heap.size w W->Calls Tryz.prog 74 #[.int .u64 (n:Int)] W fun e w'=>∃ g cap,e=.returned (.slice (some ⟨g,0,none⟩) (PC n) cap)/\w'.ownsRow W.heap.size 24 1 (.slice (some ⟨g,0,none⟩) (PC n) cap) (PC n) (z06 (z0T n))/\Below W.heap.size W w'):=
    fun W h=>z8N n hn W (hT.below h0 h) (Nat.lt_of_lt_of_le h0 h.size)
  have hP:=z1P (n:=n) (by omega);have hP6:=z19 64 n (by omega);have hR6:=(z0R hi hn).2.1;have hKl:=z3b hi hn;rw [z6l hn];have hWl:=z6g i (RISE i n);generalize WAY i (RISE i n)=A at *
  generalize z0T n=PK at *
  generalize RISE i n=R at *
  generalize KTH i n=K at *
  generalize PC n=P at *
  obtain ⟨X,hX⟩:∃ X,A ++ PK.eraseIdx K=X:=⟨_,rfl⟩
  rw [hX];obtain ⟨N,hN⟩:∃ N,X.length=N:=⟨_,rfl⟩
  rw [hN];have HA:Aside (PK.length=P/\P<=64/\R<=62/\K<P/\A.length=R):=⟨hP,hP6,hR6,hKl,hWl⟩
  have HX:Aside (z0l A PK K P=X/\X.length=N):=⟨by rw [<-hX,<-hP];exact z7D _ _ _,hN⟩
  clear hX hN;clear hP hP6 hR6 hKl hWl hT h0 hi hn;go_enter Tryz.func42,Tryz.ntmps42;go_wp2_with fail
  refine c1.mono ?_;rintro e w1 ⟨g,cap,rfl,hown,hg,hb⟩;clear c1;have R1:Aside (w1.ownsRow w.heap.size 24 1 (.slice (some ⟨g,0,none⟩) R cap) R (z06 A)/\Below w.heap.size w w1/\g<w1.heap.size):=⟨hown,hb,hg⟩
  clear hown hg hb;go_wp2_with fail
  refine (c2 _).mono ?_;rintro e w' ⟨rfl,rfl⟩;clear c2;go_wp2_with fail
  refine (C3.out _ R1.out.2.1).mono ?_;rintro e w2 ⟨gp,capp,rfl,hrow,hb2⟩
  have R2:Aside (w2.ownsRow w.heap.size 24 1 (.slice (some ⟨g,0,none⟩) R cap) (z0l A PK K 0).length (z06 (z0l A PK K 0))/\Below w.heap.size w w2/\some g≠some gp/\w2.ownsRow w1.heap.size 24 1 (.slice (some ⟨gp,0,none⟩) P capp) P (z06 PK)):=by
    obtain ⟨a1,a2,a3⟩:=R1.out;have hgp:=hrow.lt gp rfl;refine ⟨?_,a2.trans (hb2.mono a2.size),fun e=>?_,hrow⟩
    · rw [z6p,HA.out.2.2.2.2]
      exact z0s a1 hb2
    · have e:g=gp:=by simpa using e
      omega
  clear R1 hrow hb2 C3;go_wp2;go_loopg [6,31] P (fun q s6 s31 wx=>∃ j:Nat,s31=.int .i64 (j:Int)/\Aside (j+q=P/\wx.ownsRow w.heap.size 24 1 s6 (z0l A PK K j).length (z06 (z0l A PK K j))/\Below w.heap.size w wx/\s6.ownBlock≠some gp/\wx.ownsRow w1.heap.size 24 1 (.slice (some ⟨gp,0,none⟩) P capp) P (z06 PK)))
  case atStart=>exact ⟨0,rfl,by omega,R2.out.1,R2.out.2.1,R2.out.2.2.1,R2.out.2.2.2⟩
  case round=>
    obtain ⟨j,rfl,A1⟩:=hrel;clear R2;cases gk with
    | zero=>
      obtain ⟨hj,hown,hbel,hne,hrow⟩:=A1.out;obtain rfl:j=P:=by omega
      have hlt:¬ (j:Int)<(j:Int):=by omega
      have R:Aside (wr.ownsRow w.heap.size 24 1 u6 N (z06 X)/\Below w.heap.size w wr):=by
        rw [HX.out.1,HX.out.2] at hown;exact ⟨hown,hbel⟩
      clear hj hown hbel hne hrow A1 HA;go_wp2;go_ret2;exact ⟨_,rfl,R.out.1,R.out.2⟩
    | succ q=>
      obtain ⟨hj,hown,hbel,hne,hrow⟩:=A1.out;obtain ⟨a1,a2,a3,a4,a5⟩:=HA.out;have hlt:(j:Int)<(P:Int):=by omega
      have hc:wr.cell? ⟨gp,j,none⟩=some (.int .u64 ((PK.getD j 0:Nat):Int)):=by
        have hrow':=hrow;rw [<-a1] at hrow';exact z8O hrow' j (by omega)
      have e1:wrap64 ((j:Int)+1)=((j+1:Nat):Int):=by unfold wrap64;omega
      by_cases hk:j=K
      · subst hk
        have R:Aside (j+1+q=P/\wr.ownsRow w.heap.size 24 1 u6 (z0l A PK j (j+1)).length (z06 (z0l A PK j (j+1)))/\Below w.heap.size w wr/\u6.ownBlock≠some gp/\wr.ownsRow w1.heap.size 24 1 (.slice (some ⟨gp,0,none⟩) P capp) P (z06 PK)):=⟨by omega,by rw [z6q _ _ _ (by omega)];exact hown,hbel,hne,hrow⟩
        clear hj hown hbel hne hrow a1 a2 a3 a4 a5 A1;generalize PK.getD j 0=y at hc;go_wp2;go_roundg q
        case measure=>omega
        case rel=>exact ⟨j+1,by first | rfl | (rw [e1]),R.out⟩
      · have hk':((j:Int) != (K:Int))=true:=by simp;omega
        have hnx:=z6r A PK K j (by omega) hk;have hll:=z4Q A PK K j;generalize PK.getD j 0=y at *
        have R:Aside (j+1+q=P/\wr.ownsRow w.heap.size 24 1 u6 (z0l A PK K j).length (z06 (z0l A PK K j))/\Below w.heap.size w wr/\u6.ownBlock≠some gp/\wr.ownsRow w1.heap.size 24 1 (.slice (some ⟨gp,0,none⟩) P capp) P (z06 PK)/\z0l A PK K (j+1)=z0l A PK K j ++ [y]/\(z0l A PK K j).length<=1000):=⟨by omega,hown,hbel,hne,hrow,hnx,by omega⟩
        clear hj hown hbel hne hrow a1 a2 a3 a4 a5 A1 hnx hll;go_wp2_with (at_builtin;refine z4d _ rfl (.tmp 39) (.tmp 41) rfl w.heap.size u6 _ (z06 (z0l A PK K j)) rfl (R.out.2.1.alloc _) wr.heap.size 1 (y:Int) rfl (by rw [World.cell?_alloc_at _ _ _ _ rfl];rfl) R.out.2.2.2.2.2.2 (by have:=R.out.2.2.1.size;simp;omega) ?_;intro g' cap' w3 hown hgrow hat hg)
        have R3:Aside (j+1+q=P/\w3.ownsRow w.heap.size 24 1 (.slice (some ⟨g',0,none⟩) ((z0l A PK K j).length+1) cap') (z0l A PK K (j+1)).length (z06 (z0l A PK K (j+1)))/\Below w.heap.size w w3/\some g'≠some gp/\w3.ownsRow w1.heap.size 24 1 (.slice (some ⟨gp,0,none⟩) P capp) P (z06 PK)):=by
          obtain ⟨r1,r2,r3,r4,r5,r6,r7⟩:=R.out;have hgp:=r5.lt gp rfl;refine ⟨r1,?_,(r3.alloc r3.size _).grown hgrow (by have:=r3.size;simp;omega) (fun k e=>(r2.lt k e).1),z3s r4 (by simp;omega) hat,(r5.alloc _).kept hgrow (.inr fun e=>r4 e.symm)⟩;rw [r6,z1E,List.length_append];exact hown
        clear R hown hgrow hat hg hc;go_wp2;go_roundg q
        case measure=>omega
        case rel=>exact ⟨j+1,by first | rfl | (rw [e1]),R3.out⟩
theorem z5L (m n:Int) (h:4611686018427387904<n\/n<m) (w:World):Calls Tryz.prog 46 #[.int .u64 m,.int .u64 n] w fun e w'=>e=.returned (.tuple #[.slice none 0 0,.int .i64 30])/\w=w':=by
 by_cases hd:4611686018427387904<n
 ·clear h
  go_enter Tryz.func46,Tryz.ntmps46;go_wp2;go_ret2;exact ⟨rfl,rfl⟩
 ·have hm:n<m:=by omega
  clear h;go_enter Tryz.func46,Tryz.ntmps46;go_wp2;go_ret2;exact ⟨rfl,rfl⟩
theorem z7F {l:List (Nat × Nat)} {j h k:Nat} (e:l[j]?=some (h,k)):PLCS (l.take (j+1))=PLCS (l.take j) ++ [PLC h k]:=by
 rw [(z51 e).2,z3w];rfl
theorem z6s (m n:Nat) (hmn:m<=n) (hn:n<=4611686018427387904) (w:World) (hT:Tabled w) (h0:0<w.heap.size):Calls Tryz.prog 46 #[.int .u64 (m:Int),.int .u64 (n:Int)] w fun e w'=>
    ∃ v,e=.returned (.tuple #[v,.int .i64 0])/\w'.ownsRow w.heap.size 24 1 v (PLCS (PXS m n)).length (z06 (PLCS (PXS m n)))/\Below w.heap.size w w':=by
  have c1:=z8N m (by omega) w hT h0;have hd:¬ (4611686018427387904:Int)<(n:Int):=by omega
  have hd2:¬ (n:Int)<(m:Int):=by omega
  have C3:Aside (∀ W,Below w.heap.size w W->Calls Tryz.prog 76 #[.int .u64 (m:Int),.int .u64 (n:Int)] W fun e w'=>∃ v,e=.returned v/\w'.ownsRow W.heap.size 101 2 v (SPAN m n).length (z0k (SPAN m n))/\Below W.heap.size W w'):=
    fun W h=>zgr m n (by omega) hn W (hT.below h0 h) (Nat.lt_of_lt_of_le h0 h.size)
  have hP:=z1P (n:=m) (by omega);have hP6:=z19 64 m (by omega);have hS:=z1Y (a:=m) hn;have hnode:∀ j h k,(SPAN m n)[j]?=some (h,k)->Node h k:=fun j h k e=>(z2D hn hmn).node e;rw [z6m hmn hn];generalize z0T m=PK at *
  generalize PC m=P at *
  generalize SPAN m n=S at *
  obtain ⟨L,hL⟩:∃ L,S.length=L:=⟨_,rfl⟩
  rw [hL] at C3;obtain ⟨X,hX⟩:∃ X,PK ++ PLCS S=X:=⟨_,rfl⟩
  rw [hX];obtain ⟨N,hN⟩:∃ N,X.length=N:=⟨_,rfl⟩
  rw [hN];have HX:Aside (z0g PK S L=X/\X.length=N):=⟨by rw [<-hX,<-hL];simp [z0g],hN⟩
  clear hX hN;have HA:Aside (PK.length=P/\P<=64/\S.length=L/\L<=124/\∀ j h k,S[j]?=some (h,k)->Node h k):=⟨hP,hP6,hL,by omega,hnode⟩
  clear hP hP6 hS hL hnode hT h0 hmn hn;go_enter Tryz.func46,Tryz.ntmps46;go_wp2_with fail
  refine c1.mono ?_;rintro e w1 ⟨g,cap,rfl,hown,hb⟩;clear c1;have R1:Aside (w1.ownsRow w.heap.size 24 1 (.slice (some ⟨g,0,none⟩) P cap) P (z06 PK)/\Below w.heap.size w w1/\g<w1.heap.size):=⟨hown,hb,(hown.lt g rfl).2⟩
  clear hown hb;go_wp2_with fail
  refine (C3.out _ R1.out.2.1).mono ?_;rintro e w2 ⟨v,rfl,hrow,hb2⟩;obtain ⟨ga,capp,rfl,hsp⟩:=z2E HA.out.2.2.1 hrow
  have R2:Aside (w2.ownsRow w.heap.size 24 1 (.slice (some ⟨g,0,none⟩) P cap) (z0g PK S 0).length (z06 (z0g PK S 0))/\Below w.heap.size w w2/\(∀ k,(Value.slice ga L capp).ownBlock=some k->some g≠some k)/\w2.ownsRow w1.heap.size 101 2 (.slice ga L capp) L (z0k S)):=by
    obtain ⟨a1,a2,a3⟩:=R1.out;refine ⟨?_,a2.trans (hb2.mono a2.size),fun k hk e=>?_,hrow⟩
    · have:(z0g PK S 0)=PK:=by simp [z0g,PLCS]
      rw [this,HA.out.1];exact z0s a1 hb2
    · have e:g=k:=by simpa using e
      have:=(hrow.lt k hk).1;omega
  clear R1 hrow hb2 C3 hsp;go_wp2;go_loopg [6,24] L (fun q s6 s24 wx=>∃ j:Nat,s24=.int .i64 (j:Int)/\Aside (j+q=L/\wx.ownsRow w.heap.size 24 1 s6 (z0g PK S j).length (z06 (z0g PK S j))/\Below w.heap.size w wx/\(∀ k,(Value.slice ga L capp).ownBlock=some k->s6.ownBlock≠some k)/\wx.ownsRow w1.heap.size 101 2 (.slice ga L capp) L (z0k S)))
  case atStart=>exact ⟨0,rfl,by omega,R2.out⟩
  case round=>
    obtain ⟨j,rfl,A1⟩:=hrel;clear R2;cases gk with
    | zero=>
      obtain ⟨hj,hown,hbel,hne,hrow⟩:=A1.out;obtain rfl:j=L:=by omega
      have hlt:¬ (j:Int)<(j:Int):=by omega
      have R:Aside (wr.ownsRow w.heap.size 24 1 u6 N (z06 X)/\Below w.heap.size w wr):=by
        rw [HX.out.1,HX.out.2] at hown;exact ⟨hown,hbel⟩
      clear hj hown hbel hne hrow A1 HA;go_wp2;go_ret2;exact ⟨_,rfl,R.out.1,R.out.2⟩
    | succ q=>
      obtain ⟨hj,hown,hbel,hne,hrow⟩:=A1.out;obtain ⟨a1,a2,a3,a4,a5⟩:=HA.out;have hlt:(j:Int)<(L:Int):=by omega
      obtain ⟨ga',cap2,ee,hsp⟩:=z2E a3 hrow;cases ee;obtain ⟨gs,rfl,hgs,hcs⟩:=hsp (by omega);obtain ⟨h,k,eh⟩:=at_lt (l:=S) (i:=j) (by omega);obtain ⟨hy0,hy1⟩:=hcs j h k eh;have hN:=a5 j h k eh;have cp:=fun w=>zeL h k hN w
      have hnx:z0g PK S (j+1)=z0g PK S j ++ [PLC h k]:=by
        unfold z0g;rw [z7F eh,List.append_assoc]
      have hll:(z0g PK S j).length<=188:=by
        unfold z0g;rw [List.length_append,z1D,List.length_take];omega
      generalize PLC h k=y at *
      have e1:wrap64 ((j:Int)+1)=((j+1:Nat):Int):=by unfold wrap64;omega
      have hne':=hne gs rfl;have R:Aside (j+1+q=L/\wr.ownsRow w.heap.size 24 1 u6 (z0g PK S j).length (z06 (z0g PK S j))/\Below w.heap.size w wr/\u6.ownBlock≠some gs/\wr.ownsRow w1.heap.size 101 2 (.slice (some ⟨gs,0,none⟩) L capp) L (z0k S)/\z0g PK S (j+1)=z0g PK S j ++ [y]/\(z0g PK S j).length<=1000):=⟨by omega,hown,hbel,hne',hrow,hnx,by omega⟩
      clear hj hown hbel hne hrow a1 a2 a3 a4 a5 A1 hnx hll hne' hN eh hcs hgs hsp;go_wp2_with fail
      refine (cp _).mono ?_;rintro e w3 ⟨rfl,hb3⟩;clear cp hy0 hy1
      have R2:Aside (w3.ownsRow w.heap.size 24 1 u6 (z0g PK S j).length (z06 (z0g PK S j))/\Below w.heap.size w w3/\w3.ownsRow w1.heap.size 101 2 (.slice (some ⟨gs,0,none⟩) L capp) L (z0k S)):=by
        obtain ⟨r1,r2,r3,r4,r5,r6,r7⟩:=R.out;exact ⟨z0s (r2.alloc _) hb3,(r3.alloc r3.size _).trans (hb3.mono (by have:=r3.size;simp;omega)),z0s (r5.alloc _) hb3⟩
      clear hb3;go_wp2_with (at_builtin;refine z4d _ rfl (.tmp 33) (.tmp 35) rfl w.heap.size u6 _ (z06 (z0g PK S j)) rfl (R2.out.1.alloc _) w3.heap.size 1 (y:Int) rfl (by rw [World.cell?_alloc_at _ _ _ _ rfl];rfl) R.out.2.2.2.2.2.2 (by have:=R2.out.2.1.size;simp;omega) ?_;intro g' cap' w4 hown hgrow hat hg)
      have R3:Aside (j+1+q=L/\w4.ownsRow w.heap.size 24 1 (.slice (some ⟨g',0,none⟩) ((z0g PK S j).length+1) cap') (z0g PK S (j+1)).length (z06 (z0g PK S (j+1)))/\Below w.heap.size w w4/\(∀ k,(Value.slice (some ⟨gs,0,none⟩) L capp).ownBlock=some k->some g'≠some k)/\w4.ownsRow w1.heap.size 101 2 (.slice (some ⟨gs,0,none⟩) L capp) L (z0k S)):=by
        obtain ⟨r1,_,_,r4,_,r6,r7⟩:=R.out;obtain ⟨r2,r3,r5⟩:=R2.out;have hgp:=r5.lt gs rfl;refine ⟨r1,?_,(r3.alloc r3.size _).grown hgrow (by have:=r3.size;simp;omega) (fun k e=>(r2.lt k e).1),fun k hk=>?_,(r5.alloc _).kept hgrow (.inr fun e=>r4 e.symm)⟩
        · rw [r6,z1E,List.length_append]
          exact hown
        · cases hk
          exact z3s r4 (by simp;omega) hat
      clear R R2 hown hgrow hat hg;go_wp2;go_roundg q
      case measure=>omega
      case rel=>exact ⟨j+1,by first | rfl | (rw [e1]),R3.out⟩
end Go.Proofs.YthmnailmbgondaaGreatDoor
