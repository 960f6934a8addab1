/- Texts of SpanMakes, one behind the other: StoreTake, StoreTakePlain, StoreTakeOk. -/
import Derived.Laws.BitsAllLaws
import Derived.Test.YtnmalbngdhjhjaaGreatDoorSpanMakesP13
namespace Go.Proofs.YtnmalbngdhjhjaaGreatDoor.HX
open Go.RowKit Go.Maps
set_option maxRecDepth 100000
def TOOK (w w':World) (B g gr cap i m gh ch n1 lb:Nat) (xs ys:List Value):Prop:=
  ((lb≠0∧Has w' g #[.slice (some ⟨gr,0,none⟩) m cap] 207∧w'.ownsRow B 213 3 (.slice (some ⟨gr,0,none⟩) m cap) m xs)∨
    (lb=0∧Has w' g #[.slice (some ⟨gr,0,none⟩) (m - 1) cap] 207∧w'.ownsRow B 213 3 (.slice (some ⟨gr,0,none⟩) (m - 1) cap) (m - 1) (xs.take (i*3) ++ xs.drop ((i+1)*3))))∧
  w'.ownsRow B 35 32 (.slice (some ⟨gh,0,none⟩) n1 ch) n1 ys∧w.heap.size≤w'.heap.size∧Below B w w'∧∀ b,b<w.heap.size→b≠g→b≠gr→b≠gh→w'.heap[b]?=w.heap[b]?
theorem z2f {w w':World} {B s n cap b:Nat} {t:TypeId} {xs:List Value} (h:w.ownsRow B t s (.slice (some ⟨b,0,none⟩) n cap) n xs) (hb:w'.heap[b]?=w.heap[b]?):w'.ownsRow B t s (.slice (some ⟨b,0,none⟩) n cap) n xs:=z2U h fun b' e=>by cases e;exact hb
theorem zab {xs:List Value} (h:∀ u∈xs,u.oneCell'=true) (j:Nat) (v:Value) (hv:v.oneCell'=true):∀ u∈xs.set j v,u.oneCell'=true:=fun u hu=>by
  rcases List.mem_or_eq_of_mem_set hu with h1 | h1
  · exact h u h1
  · rw [h1];exact hv
set_option maxHeartbeats 4000000 in
theorem zdO (B g gr i m cap p k live lb n0 n1 rk r1 gh ch:Nat) (xs ys:List Value) (w:World) (hbx:Has w g #[.slice (some ⟨gr,0,none⟩) m cap] 207) (hrow:w.ownsRow B 213 3 (.slice (some ⟨gr,0,none⟩) m cap) m xs) (him:i<m)
    (hl:xs[i*3+1]?=some (.int .u64 (live:Int))) (hhv:xs[i*3+2]?=some (.slice (some ⟨gh,0,none⟩) n0 ch)) (hown:w.ownsRow B 35 32 (.slice (some ⟨gh,0,none⟩) n0 ch) n0 ys) (hrk:RK live k=rk) (hr1:rk+1=r1) (hn1:n0 - 1=n1) (hrn:rk<n0) (hn0:n0≤1000) (hlive:live<2 ^ 64) (hk:p % 64=k) (hp:p<2 ^ 64) (hBg:B≤g)
    (hlb:bits .andNot .u64 (live:Int) ((2 ^ k:Nat):Int)=(lb:Int)) (hy1:∀ u∈ys,u.oneCell'=true) (hx1:∀ u∈xs,u.oneCell'=true) (hne:gh≠gr∧g≠gr∧g≠gh)
    (cf:Calls Tryz.prog 162 #[.pointer (some ⟨g,0,none⟩),.int .u64 (p:Int)] w fun e w'=>e=.returned (.tuple #[.int .i64 (i:Int),.bool true])∧Below w.heap.size w w'):
    Calls Tryz.prog 102 #[.pointer (some ⟨g,0,none⟩),.int .u64 (p:Int)] w fun e w'=>(∃ v,e=.returned v)∧TOOK w w' B g gr cap i m gh ch n1 lb ((xs.set (i*3+2) (.slice (some ⟨gh,0,none⟩) n1 ch)).set (i*3+1) (.int .u64 (lb:Int))) (ys.take (rk*32) ++ ys.drop (r1*32)):=by
  have him':(i:Int)<(m:Int):=by omega
  have H:Aside (Has w g #[.slice (some ⟨gr,0,none⟩) m cap] 207∧w.ownsRow B 213 3 (.slice (some ⟨gr,0,none⟩) m cap) m xs∧i<m∧xs[i*3+1]?=some (.int .u64 (live:Int))∧xs[i*3+2]?=some (.slice (some ⟨gh,0,none⟩) n0 ch)∧w.ownsRow B 35 32 (.slice (some ⟨gh,0,none⟩) n0 ch) n0 ys∧(RK live k=rk∧rk+1=r1∧n0 - 1=n1∧rk<n0∧n0≤1000)∧live<2 ^ 64∧p % 64=k∧p<2 ^ 64∧B≤g∧(∀ u∈ys,u.oneCell'=true)∧(∀ u∈xs,u.oneCell'=true)∧gh≠gr∧g≠gr∧g≠gh):=⟨hbx,hrow,him,hl,hhv,hown,⟨hrk,hr1,hn1,hrn,hn0⟩,hlive,hk,hp,hBg,hy1,hx1,hne.1,hne.2.1,hne.2.2⟩
  have HB:Aside (bits .andNot .u64 (live:Int) ((2 ^ k:Nat):Int)=(lb:Int)):=hlb
  clear hbx hrow him hl hhv hown hrk hr1 hn1 hrn hn0 hlive hk hp hBg hlb hy1 hx1 hne
  go_enter Tryz.func102,Tryz.ntmps102
  go_wp2_with fail
  refine cf.mono ?_
  rintro e w1 ⟨rfl,hb1⟩
  clear cf
  obtain ⟨a1,a2,a3,a4,a5,a6,⟨a7,a8,a9,a10,a11⟩,a12,a13,a14,a15,a16,a17,a18,a19,a20⟩:=H.out
  have hbx1:=a1.keep hb1
  have hrow1:=z2d a2 hb1
  have hown1:=z2d a6 hb1
  have hcb:=hbx1.cell 0
  obtain ⟨x1,x2,x3,x4⟩:=z0J hrow1 a4
  obtain ⟨y1,y2,y3,y4⟩:=z0J hrow1 a5
  have hkk:k<64:=by rw [← a13];exact Nat.mod_lt _ (by decide)
  have cB:∀ w,Calls Tryz.prog 164 #[.int .u64 (p:Int)] w fun e w'=>e=.returned (.int .u64 ((2 ^ k:Nat):Int))∧w=w':=fun w=>by have:=z3L p a14 w;rw [a13] at this;exact this
  have cR:Calls Tryz.prog 163 #[.pointer (some ⟨gr,i*3,none⟩),.int .u64 ((2 ^ k:Nat):Int)] w1 fun e w'=>e=.returned (.int .i64 (rk:Int))∧w1=w':=by
    have:=z4O gr (i*3) live k a12 hkk w1 x1
    rw [z4P (by omega),a7] at this
    exact this
  have cD:=zb2 B gh n0 ch rk r1 n1 ys w1 hown1 a16 a10 a8 a9
  have hwr:wrap64 ((rk:Int)+1)=(r1:Int):=by unfold wrap64;omega
  have hwr2:IntKind.i64.wrap ((rk:Int)+1)=(r1:Int):=(IntWalk.i64_left _).trans hwr
  have hwi:Aside (wrap64 ((i:Int)+1)=((i+1:Nat):Int)):=by
    have:=(z3P hrow1).2.2
    show wrap64 _=_
    unfold wrap64
    unfold maxLen at this
    omega
  have hb2k:Aside (2 ^ k<2 ^ 64):=Nat.pow_lt_pow_right (by decide) hkk
  obtain ⟨bt,hbt⟩:∃ bt,2 ^ k=bt:=⟨_,rfl⟩
  have HBT:Aside (bits .andNot .u64 (live:Int) (bt:Int)=(lb:Int)):=by rw [← hbt];exact HB.out
  rw [hbt] at cB cR
  have HH:Aside (Has w1 g #[.slice (some ⟨gr,0,none⟩) m cap] 207∧w1.ownsRow B 213 3 (.slice (some ⟨gr,0,none⟩) m cap) m xs∧Below w.heap.size w w1∧g<w.heap.size∧gr<w.heap.size∧gh<w.heap.size):=⟨hbx1,hrow1,hb1,a1.lt,(z0J a2 a4).2.2.1,(z3P a6).2.2.2.2.1⟩
  clear a1 a2 a3 a4 a5 a6 a7 a8 a9 a10 a11 a12 a13 a14 a15 a16 a17 a18 a19 a20 hbx1 hrow1 hown1 hbt hkk x2 x3 x4 y2 y3 y4 hb1
  go_wp2_with (first
    | (refine (cB _).mono ?_;rintro e w' ⟨rfl,rfl⟩)
    | (refine cR.mono ?_;rintro e w' ⟨rfl,rfl⟩)
    | fail)
  refine cD.mono ?_
  rintro e w2 ⟨rfl,d1,d2,d3⟩
  clear cD cR hwr hwr2 hcb x1 y1
  obtain ⟨b1,b2,b3,b4,b5,b6⟩:=HH.out
  obtain ⟨a1,a2,a3,a4,a5,a6, -,a12,a13,a14,a15,a16,a17,a18,a19,a20⟩:=H.out
  have hbx2:Has w2 g #[.slice (some ⟨gr,0,none⟩) m cap] 207:=(d2 g a20).trans b1
  have hrow2:=z2f b2 (d2 gr (fun e=>a18 e.symm))
  obtain ⟨x1,x2,x3,x4⟩:=z0J hrow2 a4
  obtain ⟨y1,y2,y3,y4⟩:=z0J hrow2 a5
  have hrow3:=z2K hrow2 (i*3+2) (.slice (some ⟨gh,0,none⟩) n1 ch)
  obtain ⟨w3,hw3⟩:∃ w3,w2.setCell ⟨gr,i*3+2,none⟩ (.slice (some ⟨gh,0,none⟩) n1 ch)=w3:=⟨_,rfl⟩
  rw [hw3] at hrow3
  have hset3:∀ b,b≠gr→w3.heap[b]?=w2.heap[b]?:=fun b hb=>by rw [← hw3];exact Below.heap_setCell _ _ _ b (by exact hb)
  have hbx3:Has w3 g #[.slice (some ⟨gr,0,none⟩) m cap] 207:=(hset3 g a19).trans hbx2
  have hown3:=z2f d1 (hset3 gh a18)
  have l3:(xs.set (i*3+2) (.slice (some ⟨gh,0,none⟩) n1 ch))[i*3+1]?=some (.int .u64 (live:Int)):=by rw [List.getElem?_set_ne (by omega)];exact a4
  obtain ⟨z1,z2, -,z4⟩:=z0J hrow3 l3
  have hB3:Below B w w3:=by rw [← hw3];exact ((b3.mono (by omega)).trans d3).setCell (p:=⟨gr,i*3+2,none⟩) z4 _
  have HT:Aside (Has w3 g #[.slice (some ⟨gr,0,none⟩) m cap] 207∧w3.ownsRow B 213 3 (.slice (some ⟨gr,0,none⟩) m cap) m (xs.set (i*3+2) (.slice (some ⟨gh,0,none⟩) n1 ch))∧w3.ownsRow B 35 32 (.slice (some ⟨gh,0,none⟩) n1 ch) n1 (ys.take (rk*32) ++ ys.drop (r1*32))∧Below B w w3∧(∀ b,b<w.heap.size→b≠g→b≠gr→b≠gh→w3.heap[b]?=w.heap[b]?)∧B≤gr):=⟨hbx3,hrow3,hown3,hB3,fun b hb _ h1 h2=>(hset3 b h1).trans ((d2 b h2).trans (b3.block b hb)),z4⟩
  clear hbx2 hrow2 hrow3 hset3 hbx3 hown3 hB3 d1 d2 d3 x1 x2 x3 x4 y3 y4 b1 b2 b3 b4 b5 b6 a1 a2 a3 a4 a5 a6 a12 a13 a14 a15 a16 a17 a18 a19 a20 l3 z4
  go_upto_region 4 with fail
  refine zhd _ _ _ _ _ _ _ _ _ _ _ _ _ _ _ _ _ _ _ _ _ _ _ _ _ _ _ _ _ _ _ _ _ _ _ _ _ _ _ _ _ _ _ _ _ _ _ _ _ _ _ _ _ _ _ _ _ _ w3 gr i p bt live lb z1 z2 HBT.out cB (fun _ _ _ _ _ h=>h) ?_
  dsimp only
  clear cB hw3 y1 y2 z1 z2
  obtain ⟨c1,c2,c3,c4,c5,c6⟩:=HT.out
  have c2':w3.drew.ownsRow B 213 3 (.slice (some ⟨gr,0,none⟩) m cap) m (xs.set (i*3+2) (.slice (some ⟨gh,0,none⟩) n1 ch)):=c2
  have hrow4:=z2K c2' (i*3+1) (.int .u64 (lb:Int))
  obtain ⟨w4,hw4⟩:∃ w4,w3.drew.setCell ⟨gr,i*3+1,none⟩ (.int .u64 (lb:Int))=w4:=⟨_,rfl⟩
  rw [hw4] at hrow4 ⊢
  obtain ⟨xs1,hxs1⟩:∃ xs1,(xs.set (i*3+2) (.slice (some ⟨gh,0,none⟩) n1 ch)).set (i*3+1) (.int .u64 (lb:Int))=xs1:=⟨_,rfl⟩
  rw [hxs1] at hrow4
  have HX:Aside ((xs.set (i*3+2) (.slice (some ⟨gh,0,none⟩) n1 ch)).set (i*3+1) (.int .u64 (lb:Int))=xs1):=hxs1
  have hone:Aside (∀ u∈xs1,u.oneCell'=true):=by
    rw [← hxs1]
    exact zab (zab H.out.2.2.2.2.2.2.2.2.2.2.2.2.1 _ _ rfl) _ _ rfl
  have hset4:∀ b,b≠gr→w4.heap[b]?=w3.heap[b]?:=fun b hb=>by rw [← hw4];exact Below.heap_setCell _ _ _ b (by exact hb)
  have hlen:i*3+1<xs.length:=(List.getElem?_eq_some_iff.1 H.out.2.2.2.1).1
  have l4:xs1[i*3+1]?=some (.int .u64 (lb:Int)):=by rw [← hxs1,List.getElem?_set_self (by simpa using hlen)]
  obtain ⟨z1,z2, -, -⟩:=z0J hrow4 l4
  obtain ⟨a1,a2,a3,a4,a5,a6, -,a12,a13,a14,a15,a16,a17,a18,a19,a20⟩:=H.out
  have hbx4:Has w4 g #[.slice (some ⟨gr,0,none⟩) m cap] 207:=(hset4 g a19).trans c1
  have hown4:=z2f c3 (hset4 gh a18)
  have hB4:Below B w w4:=by rw [← hw4];exact c4.drew.setCell (p:=⟨gr,i*3+1,none⟩) c6 _
  have hfr4:∀ b,b<w.heap.size→b≠g→b≠gr→b≠gh→w4.heap[b]?=w.heap[b]?:=fun b h1 h2 h3 h4=>(hset4 b h3).trans (c5 b h1 h2 h3 h4)
  by_cases hz:lb=0
  · have hzb:((lb:Int) == 0)=true:=by simp;omega
    obtain ⟨i1,hi1⟩:∃ i1,i+1=i1:=⟨_,rfl⟩
    obtain ⟨m1,hm1⟩:∃ m1,m - 1=m1:=⟨_,rfl⟩
    have cD:=zb3 B gr m cap i i1 m1 xs1 w4 hrow4 hone.out a3 hi1 hm1
    have hcb:=hbx4.cell 0
    have hwi1:wrap64 ((i:Int)+1)=(i1:Int):=by rw [← hi1];exact hwi.out
    have hwi2:IntKind.i64.wrap ((i:Int)+1)=(i1:Int):=(IntWalk.i64_left _).trans hwi1
    have HI:Aside (i+1=i1∧m - 1=m1∧lb=0):=⟨hi1,hm1,hz⟩
    have HF:Aside (Has w4 g #[.slice (some ⟨gr,0,none⟩) m cap] 207∧w4.ownsRow B 35 32 (.slice (some ⟨gh,0,none⟩) n1 ch) n1 (ys.take (rk*32) ++ ys.drop (r1*32))∧Below B w w4∧∀ b,b<w.heap.size→b≠g→b≠gr→b≠gh→w4.heap[b]?=w.heap[b]?):=⟨hbx4,hown4,hB4,hfr4⟩
    clear c1 c2 c3 c4 c5 c6 c2' hrow4 hset4 a1 a2 a3 a4 a5 a6 a12 a13 a14 a15 a16 a17 a18 a19 a20 hbx4 hown4 hB4 hfr4 hz l4 hlen hxs1 hw4 hi1 hm1 z2
    go_wp2_with fail
    refine cD.mono ?_
    rintro e w5 ⟨rfl,d1,d2,d3⟩
    clear cD
    obtain ⟨f1,f2,f3,f4⟩:=HF.out
    obtain ⟨a1,a2,a3,a4,a5,a6, -,a12,a13,a14,a15,a16,a17,a18,a19,a20⟩:=H.out
    have hbx5:Has w5 g #[.slice (some ⟨gr,0,none⟩) m cap] 207:=(d2 g a19).trans f1
    have hbx6:Has (w5.setCell ⟨g,0,none⟩ (.slice (some ⟨gr,0,none⟩) m1 cap)) g #[.slice (some ⟨gr,0,none⟩) m1 cap] 207:=hbx5.set 0 _
    have hset6:∀ b,b≠g→(w5.setCell ⟨g,0,none⟩ (.slice (some ⟨gr,0,none⟩) m1 cap)).heap[b]?=w5.heap[b]?:=fun b hb=>Below.heap_setCell _ _ _ b (by exact hb)
    have E:Aside (TOOK w (w5.setCell ⟨g,0,none⟩ (.slice (some ⟨gr,0,none⟩) m1 cap)) B g gr cap i m gh ch n1 lb xs1 (ys.take (rk*32) ++ ys.drop (r1*32))):=by
      have hB6:Below B w (w5.setCell ⟨g,0,none⟩ (.slice (some ⟨gr,0,none⟩) m1 cap)):=(f3.trans d3).setCell (p:=⟨g,0,none⟩) a15 _
      refine ⟨.inr ⟨HI.out.2.2,by rw [HI.out.2.1];exact hbx6,?_⟩,z2f (z2f f2 (d2 gh a18)) (hset6 gh (fun e=>a20 e.symm)),hB6.size,hB6,fun b h1 h2 h3 h4=>(hset6 b h2).trans ((d2 b h3).trans (f4 b h1 h2 h3 h4))⟩
      rw [HI.out.2.1,HI.out.1]
      exact z2f d1 (hset6 gr (fun e=>a19 e.symm))
    have k1:=hbx5.cell 0
    have k2:=hbx5.frozen 0
    clear f1 f2 f3 f4 a1 a2 a3 a4 a5 a6 a12 a13 a14 a15 a16 a17 a18 a19 a20 d1 d2 d3 hset6 hbx6 hbx5 hwi1 hwi2 hcb z1 hzb
    go_wp2
    go_end0
    rw [HX.out]
    exact ⟨⟨_,rfl⟩,E.out⟩
  · have hzb:((lb:Int) == 0)=false:=by simp;omega
    have E:Aside (TOOK w w4 B g gr cap i m gh ch n1 lb xs1 (ys.take (rk*32) ++ ys.drop (r1*32))):=⟨.inl ⟨hz,hbx4,hrow4⟩,hown4,hB4.size,hB4,hfr4⟩
    clear c1 c2 c3 c4 c5 c6 c2' hrow4 hset4 a1 a2 a3 a4 a5 a6 a12 a13 a14 a15 a16 a17 a18 a19 a20 hbx4 hown4 hB4 hfr4 hz l4 hlen hxs1 hw4
    go_wp2
    go_end0
    rw [HX.out]
    exact ⟨⟨_,rfl⟩,E.out⟩
end Go.Proofs.YtnmalbngdhjhjaaGreatDoor.HX

namespace Go.Proofs.YtnmalbngdhjhjaaGreatDoor.HX
open Go.RowKit Go.Maps
set_option maxRecDepth 100000
def CLR (X k:Nat):Nat:=X &&& (2 ^ 64 - 1 - 2 ^ k)
theorem zdP {k j:Nat} (hk:k<64):(2 ^ 64 - 1 - 2 ^ k).testBit j=(decide (j<64) && !decide (k=j)):=by
  have h2:2 ^ 64 - 1 - 2 ^ k=2 ^ 64 - (2 ^ k+1):=by omega
  rw [h2,Nat.testBit_two_pow_sub_succ (Nat.pow_lt_pow_right (by decide) hk),Nat.testBit_two_pow]
theorem z2L {X k j:Nat} (hX:X<2 ^ 64) (hk:k<64):(CLR X k).testBit j=(X.testBit j && !decide (k=j)):=by
  unfold CLR
  rw [Nat.testBit_and,zdP hk]
  by_cases h:j<64
  · simp [h]
  · have:X.testBit j=false:=Nat.testBit_lt_two_pow (Nat.lt_of_lt_of_le hX (Nat.pow_le_pow_right (by decide) (by omega)))
    simp [this]
theorem zcc {X k:Nat} (hX:X<2 ^ 64):CLR X k<2 ^ 64:=Nat.lt_of_le_of_lt Nat.and_le_left hX
theorem zcd {X k:Nat} (hX:X<2 ^ 64) (hk:k<64) (h:X.testBit k=true):CLR X k ||| 2 ^ k=X:=by
  apply Nat.eq_of_testBit_eq
  intro j
  rw [z4s,z2L hX hk]
  by_cases e:k=j
  · subst e;simp [h]
  · simp [e]
theorem zce {X k:Nat} (hX:X<2 ^ 64) (hk:k<64):(CLR X k).testBit k=false:=by rw [z2L hX hk];simp
theorem zcf {X k:Nat} (hX:X<2 ^ 64) (hk:k<64) (h:X.testBit k=true) (j:Nat):RK X j=RK (CLR X k) j+if k<j then 1 else 0:=by
  have:=z7A (zce hX hk) j
  rw [zcd hX hk h] at this
  exact this
theorem zfk {X k:Nat} (hX:X<2 ^ 64) (hk:k<64) (h:X.testBit k=true):POP X=POP (CLR X k)+1:=by
  have:=zca (zce hX hk) hk
  rw [zcd hX hk h] at this
  exact this
theorem zfl {X k:Nat} (hX:X<2 ^ 64) (hk:k<64):bits .andNot .u64 (X:Int) ((2 ^ k:Nat):Int)=((CLR X k:Nat):Int):=by
  unfold CLR
  have h2:2 ^ k<2 ^ 64:=Nat.pow_lt_pow_right (by decide) hk
  exact u64_andNot_nat X (2 ^ k) (by omega) (by omega)
theorem z4t {α:Type} (f:α→List Value) (s:Nat) (hf:∀ x,(f x).length=s):∀ (l:List α) (i:Nat),(l.flatMap f).take (i*s)=(l.take i).flatMap f
  | [],i=>by simp
  | x :: l,0=>by simp
  | x :: l,i+1=>by
    rw [List.flatMap_cons,List.take_succ_cons,List.flatMap_cons,Nat.succ_mul,List.take_append,hf,List.take_of_length_le (by rw [hf];omega),Nat.add_sub_cancel,z4t f s hf l i]
theorem z4u {α:Type} (f:α→List Value) (s:Nat) (hf:∀ x,(f x).length=s):∀ (l:List α) (i:Nat),(l.flatMap f).drop (i*s)=(l.drop i).flatMap f
  | [],i=>by simp
  | x :: l,0=>by simp
  | x :: l,i+1=>by
    rw [List.flatMap_cons,List.drop_succ_cons,Nat.succ_mul,← z4u f s hf l i,List.drop_append,hf,List.drop_of_length_le (by rw [hf];omega),Nat.add_sub_cancel,List.nil_append]
theorem zgs (hs:List (Nat→Nat)) (k:Nat):(HL hs).take (k*32) ++ (HL hs).drop ((k+1)*32)=HL (hs.eraseIdx k):=by
  unfold HL
  rw [z4t _ 32 (fun _=>z09 _ _ _),z4u _ 32 (fun _=>z09 _ _ _),List.eraseIdx_eq_take_drop_succ,List.flatMap_append]
theorem zgt (rs:List ROW) (i:Nat):(RC rs).take (i*3) ++ (RC rs).drop ((i+1)*3)=RC (rs.eraseIdx i):=by
  unfold RC
  rw [z4t _ 3 (fun _=>rfl),z4u _ 3 (fun _=>rfl),List.eraseIdx_eq_take_drop_succ,List.flatMap_append]
theorem zcg:∀ (rs:List ROW) (i:Nat) (r r':ROW),rs[i]?=some r→r'.num=r.num→RC (rs.set i r')=((RC rs).set (i*3+2) r'.v).set (i*3+1) (.int .u64 (r'.live:Int))
  | [],_,_,_,h,_=>by simp at h
  | x :: rs,0,r,r',h,hn=>by
    simp at h
    subst h
    simp [RC,hn]
  | x :: rs,i+1,r,r',h,hn=>by
    have ih:=zcg rs i r r' (by simpa using h) hn
    have e1:RC (x :: rs)=[.int .u64 (x.num:Int),.int .u64 (x.live:Int),x.v] ++ RC rs:=by simp [RC]
    have e2:RC ((x :: rs).set (i+1) r')=[.int .u64 (x.num:Int),.int .u64 (x.live:Int),x.v] ++ RC (rs.set i r'):=by simp [RC]
    rw [e2,e1,ih,List.set_append_right _ _ (by simp;omega),List.set_append_right _ _ (by simp;omega)]
    simp only [List.length_cons,List.length_nil]
    rw [show (i+1)*3+2 - (0+1+1+1)=i*3+2 by omega,show (i+1)*3+1 - (0+1+1+1)=i*3+1 by omega]
theorem zgu {rs:List ROW}:∀ u∈RC rs,u.oneCell'=true:=fun u hu=>by
  simp only [RC,List.mem_flatMap] at hu
  obtain ⟨r,_,hu⟩:=hu
  simp at hu
  rcases hu with rfl | rfl | rfl <;> rfl
theorem zgv {hs:List (Nat→Nat)}:∀ u∈HL hs,u.oneCell'=true:=fun u hu=>by
  simp only [HL,List.mem_flatMap] at hu
  obtain ⟨r,_,hu⟩:=hu
  exact z3b _ _ _ u hu
def FEWER (rs rs':List ROW) (i:Nat) (r':ROW):Prop:=∃ φ:Nat→Nat,(∀ a b,a<b→φ a<φ b)∧(∀ j s,rs'[j]?=some s→(φ j≠i∧rs[φ j]?=some s)∨(φ j=i∧s=r'∧r'.live≠0))∧(∀ j s,j≠i→rs[j]?=some s→s∈rs')∧(r'.live≠0→r'∈rs')∧rs'.length≤rs.length
theorem zch {rs:List ROW} {i:Nat} {r':ROW} (hi:i<rs.length) (h:r'.live≠0):FEWER rs (rs.set i r') i r':=by
  refine ⟨fun j=>j,fun a b h=>h,fun j s hs=>?_,fun j s hj hs=>?_,fun _=>List.mem_set hi r',by simp⟩
  · by_cases e:i=j
    · subst e
      rw [List.getElem?_set_self hi] at hs
      exact .inr ⟨rfl,(Option.some.inj hs).symm,h⟩
    · rw [List.getElem?_set_ne e] at hs
      exact .inl ⟨fun h=>e h.symm,hs⟩
  · have:(rs.set i r')[j]?=some s:=by rw [List.getElem?_set_ne (fun e=>hj e.symm)];exact hs
    exact List.mem_of_getElem? this
theorem z9c {rs:List ROW} {i:Nat} {r':ROW} (hi:i<rs.length) (h:r'.live=0):FEWER rs (rs.eraseIdx i) i r':=by
  refine ⟨fun j=>if j<i then j else j+1,fun a b h=>?_,fun j s hs=>.inl ?_,fun j s hj hs=>?_,fun h'=>absurd h h',by rw [List.length_eraseIdx];split <;> omega⟩
  · dsimp only
    split <;> split <;> omega
  · rw [List.getElem?_eraseIdx] at hs
    dsimp only
    split
    · rename_i e
      rw [if_pos e] at hs
      exact ⟨by omega,hs⟩
    · rename_i e
      rw [if_neg e] at hs
      exact ⟨by omega,hs⟩
  · by_cases e:j<i
    · have:(rs.eraseIdx i)[j]?=some s:=by rw [List.getElem?_eraseIdx,if_pos e];exact hs
      exact List.mem_of_getElem? this
    · have:(rs.eraseIdx i)[j - 1]?=some s:=by rw [List.getElem?_eraseIdx,if_neg (by omega),show j - 1+1=j by omega];exact hs
      exact List.mem_of_getElem? this
abbrev RISE (rs:List ROW):Prop:=∀ (i j:Nat) (r s:ROW),i<j→rs[i]?=some r→rs[j]?=some s→r.num<s.num
theorem FEWER.rise {rs rs':List ROW} {i:Nat} {r r':ROW} (h:FEWER rs rs' i r') (hr:rs[i]?=some r) (hn:r'.num=r.num) (hR:RISE rs):RISE rs':=fun a b x y hab hx hy=>by
  obtain ⟨φ,m,f,_⟩:=h
  have hm:=m a b hab
  have key:∀ j s,rs'[j]?=some s→∃ s0,rs[φ j]?=some s0∧s0.num=s.num:=fun j s hs=>by
    rcases f j s hs with ⟨_,h1⟩ | ⟨h1,h2,_⟩
    · exact ⟨s,h1,rfl⟩
    · exact ⟨r,by rw [h1];exact hr,by rw [h2,hn]⟩
  obtain ⟨x0,hx0,ex⟩:=key a x hx
  obtain ⟨y0,hy0,ey⟩:=key b y hy
  rw [← ex,← ey]
  exact hR _ _ _ _ hm hx0 hy0
theorem z5m {rs:List ROW} {p:Nat} {s:ROW} (hR:RISE rs) (hs:s∈rs) (hn:s.num=p / 64):LOOK rs p=if s.live.testBit (p % 64) then s.hs[RK s.live (p % 64)]? else none:=by
  obtain ⟨j,hj⟩:=List.getElem?_of_mem hs
  exact z6s hj hn hR
theorem FEWER.back {rs rs':List ROW} {i:Nat} {r' s:ROW} (h:FEWER rs rs' i r') (hs:s∈rs'):(∃ j,j≠i∧rs[j]?=some s)∨(s=r'∧r'.live≠0):=by
  obtain ⟨φ,m,f,_⟩:=h
  obtain ⟨j,hj⟩:=List.getElem?_of_mem hs
  rcases f j s hj with ⟨h1,h2⟩ | ⟨_,h2⟩
  · exact .inl ⟨_,h1,h2⟩
  · exact .inr h2
theorem zb4 {rs rs':List ROW} {i p k gh ch:Nat} {r:ROW} (hr:rs[i]?=some r) (hn:r.num=p / 64) (hk:p % 64=k) (hl:r.live<2 ^ 64) (hb:r.live.testBit k=true) (hR:RISE rs) (h:FEWER rs rs' i ⟨r.num,CLR r.live k,gh,ch,r.hs.eraseIdx (RK r.live k)⟩) (p':Nat):
    LOOK rs' p'=if p'=p then none else LOOK rs p':=by
  have hR':=h.rise hr rfl hR
  have hk64:k<64:=by rw [← hk];exact Nat.mod_lt _ (by decide)
  by_cases e:p' / 64=r.num
  · have hL := z6s hr e.symm hR
    by_cases e0:CLR r.live k=0
    · have hno:∀ s∈rs',s.num≠p' / 64:=fun s hs en=>by
        rcases h.back hs with ⟨j,hj,hjs⟩ | ⟨_,h2⟩
        · rcases Nat.lt_or_gt_of_ne hj with h1 | h1
          · have:=hR j i s r h1 hjs hr;omega
          · have:=hR i j r s h1 hr hjs;omega
        · exact h2 e0
      rw [z3c hno]
      by_cases e2:p'=p
      · rw [if_pos e2]
      · rw [if_neg e2,hL]
        have hj:¬ k=p' % 64:=by omega
        have:=z2L (j:=p' % 64) hl hk64
        rw [e0] at this
        simp [hj] at this
        rw [this]
        rfl
    · obtain ⟨φ,m,f1,f2,f3,f4⟩:=h
      rw [z5m hR' (f3 e0) (by exact e.symm),z2L hl hk64]
      dsimp only
      by_cases e2:p'=p
      · have hj:k=p' % 64:=by omega
        rw [if_pos e2]
        simp [hj]
      · have hj:¬ k=p' % 64:=by omega
        rw [if_neg e2,hL]
        simp only [hj,decide_false,Bool.not_false,Bool.and_true]
        cases hb2:r.live.testBit (p' % 64)
        · rfl
        · rw [if_pos rfl,if_pos rfl,List.getElem?_eraseIdx]
          have h1:=zcf hl hk64 hb (p' % 64)
          have h2:=zcf hl hk64 hb k
          rw [if_neg (Nat.lt_irrefl _)] at h2
          by_cases e3:k<p' % 64
          · rw [if_pos e3] at h1
            have h3:=z6q (CLR r.live k) (i:=k) (j:=p' % 64) (by omega)
            rw [if_neg (by omega),h1]
          · rw [if_neg e3] at h1
            have h3:=z6q (CLR r.live k) (i:=p' % 64+1) (j:=k) (by omega)
            rw [RK,z2L hl hk64,hb2] at h3
            simp [hj] at h3
            rw [if_pos (by omega),h1,Nat.add_zero]
  · have e2:p'≠p:=fun h=>e (by rw [h];exact hn.symm)
    rw [if_neg e2]
    by_cases hs:∃ s∈rs,s.num=p' / 64
    · obtain ⟨s,hs,en⟩:=hs
      obtain ⟨j,hj⟩:=List.getElem?_of_mem hs
      have hji:j≠i:=fun h=>by subst h;rw [hr] at hj;cases hj;omega
      obtain ⟨φ,m,f1,f2,f3,f4⟩:=h
      rw [z5m hR hs en,z5m hR' (f2 j s hji hj) en]
    · rw [z3c (rs:=rs) (fun s h1 h2=>hs ⟨s,h1,h2⟩),z3c]
      intro s h1 h2
      rcases h.back h1 with ⟨j,_,hjs⟩ | ⟨h3,_⟩
      · exact hs ⟨s,List.mem_of_getElem? hjs,h2⟩
      · rw [h3] at h2;exact e h2.symm
end Go.Proofs.YtnmalbngdhjhjaaGreatDoor.HX

namespace Go.Proofs.YtnmalbngdhjhjaaGreatDoor.HX
open Go.RowKit Go.Maps
set_option maxRecDepth 100000
theorem zdQ {X:Nat} (h:X≠0):∃ j,X.testBit j=true:=by
  by_cases e:∃ j,X.testBit j=true
  · exact e
  · exfalso
    apply h
    apply Nat.eq_of_testBit_eq
    intro j
    rw [Nat.zero_testBit]
    cases hb:X.testBit j
    · rfl
    · exact absurd ⟨j,hb⟩ e
theorem CHUNK.fewer {w w':World} {B g i k n1:Nat} {rs rs':List ROW} {r:ROW} {v:Value} (hC:CHUNK w B g rs) (hr:rs[i]?=some r) (hk:k<64) (hb:r.live.testBit k=true) (h:FEWER rs rs' i ⟨r.num,CLR r.live k,r.gh,r.ch,r.hs.eraseIdx (RK r.live k)⟩)
    (b1:Has w' g #[v] 207) (b2:w'.ownsRow B 213 3 v rs'.length (RC rs')) (hn1:(r.hs.eraseIdx (RK r.live k)).length=n1)
    (b3:w'.ownsRow B 35 32 (.slice (some ⟨r.gh,0,none⟩) n1 r.ch) n1 (HL (r.hs.eraseIdx (RK r.live k)))) (b4:∀ j s,j≠i→rs[j]?=some s→w'.heap[s.gh]?=w.heap[s.gh]?):CHUNK w' B g rs':=by
  have hrm:=List.mem_of_getElem? hr
  obtain ⟨r1,r2,r3,r4,r5⟩:=hC.row r hrm
  have hF:=h
  obtain ⟨φ,m,f1,f2,f3,f4⟩:=h
  refine ⟨⟨v,b1,b2⟩,hC.far,Nat.lt_of_le_of_lt f4 hC.few,hF.rise hr rfl hC.rise,fun s hs=>?_,fun a b x y hab hx hy=>?_,fun s hs=>?_⟩
  · rcases hF.back hs with ⟨j,hj,hjs⟩ | ⟨rfl,_⟩
    · obtain ⟨c1,c2,c3,c4,c5⟩:=hC.row s (List.mem_of_getElem? hjs)
      exact ⟨c1,c2,c3,c4,z2U c5 fun b hb=>by cases hb;exact b4 j s hj hjs⟩
    · refine ⟨r1,zcc r2,?_,fun x hx=>r4 x (List.mem_of_mem_eraseIdx hx),?_⟩
      · show (r.hs.eraseIdx (RK r.live k)).length=POP (CLR r.live k)
        have h1:=zfk r2 hk hb
        have h2:=z7z hk hb
        rw [List.length_eraseIdx,if_pos (by omega)]
        omega
      · show w'.ownsRow B 35 32 (.slice (some ⟨r.gh,0,none⟩) (r.hs.eraseIdx (RK r.live k)).length r.ch) (r.hs.eraseIdx (RK r.live k)).length (HL (r.hs.eraseIdx (RK r.live k)))
        rw [hn1]
        exact b3
  · have key:∀ j s,rs'[j]?=some s→∃ s0,rs[φ j]?=some s0∧s0.gh=s.gh:=fun j s hs=>by
      rcases f1 j s hs with ⟨_,h1⟩ | ⟨h1,h2,_⟩
      · exact ⟨s,h1,rfl⟩
      · exact ⟨r,by rw [h1];exact hr,by rw [h2]⟩
    obtain ⟨x0,hx0,ex⟩:=key a x hx
    obtain ⟨y0,hy0,ey⟩:=key b y hy
    rw [← ex,← ey]
    refine hC.apart _ _ _ _ (fun e=>?_) hx0 hy0
    rcases Nat.lt_or_gt_of_ne hab with h1 | h1
    · have:=m _ _ h1;omega
    · have:=m _ _ h1;omega
  · rcases hF.back hs with ⟨j,hj,hjs⟩ | ⟨rfl,h0⟩
    · exact hC.lives s (List.mem_of_getElem? hjs)
    · obtain ⟨j,hj⟩:=zdQ h0
      refine ⟨j,?_,hj⟩
      rcases Nat.lt_or_ge j 64 with h1 | h1
      · exact h1
      · have:=Nat.testBit_lt_two_pow (x:=CLR r.live k) (i:=j) (Nat.lt_of_lt_of_le (zcc r2) (Nat.pow_le_pow_right (by decide) h1))
        rw [this] at hj
        cases hj
def zb5 (w:World) (B g p:Nat) (rs:List ROW) (w':World):Prop:=
  ∃ rs',CHUNK w' B g rs'∧(∀ p',LOOK rs' p'=if p'=p then none else LOOK rs p')∧
    (∀ r∈rs',∃ r0∈rs,r0.num=r.num∧r0.gh=r.gh∧∀ j,j<64→r.live.testBit j=true→r0.live.testBit j=true)∧
    (∀ v v',w.cell? ⟨g,0,none⟩=some v→w'.cell? ⟨g,0,none⟩=some v'→v'.ownBlock=v.ownBlock)∧
    w.heap.size≤w'.heap.size∧Below B w w'∧
    ∀ b,b<w.heap.size→b≠g→(∀ v,w.cell? ⟨g,0,none⟩=some v→v.ownBlock≠some b)→(∀ r∈rs,r.gh≠b)→w'.heap[b]?=w.heap[b]?
theorem zci {rs:List ROW} {p:Nat} {h:Nat→Nat} (hL:LOOK rs p=some h):∃ (i:Nat) (r:ROW),rs[i]?=some r∧r.num=p / 64∧r.live.testBit (p % 64)=true:=by
  unfold LOOK at hL
  cases hf:rs.find? fun r=>r.num == p / 64 with
  | none=>rw [hf] at hL;cases hL
  | some r=>
    rw [hf] at hL
    obtain ⟨i,hi⟩:=List.getElem?_of_mem (List.mem_of_find?_eq_some hf)
    refine ⟨i,r,hi,by simpa using List.find?_some hf,?_⟩
    cases hb:r.live.testBit (p % 64) with
    | true=>rfl
    | false=>simp [hb] at hL
theorem z7Y (B g p:Nat) (rs:List ROW) (h:Nat→Nat) (hp:p<2 ^ 64) (w:World) (hC:CHUNK w B g rs) (hL:LOOK rs p=some h):Calls Tryz.prog 102 #[.pointer (some ⟨g,0,none⟩),.int .u64 (p:Int)] w fun e w'=>(∃ v,e=.returned v)∧zb5 w B g p rs w':=by
  obtain ⟨i,r,hr,hn,hb⟩:=zci hL
  obtain ⟨k,hk⟩:∃ k,p % 64=k:=⟨_,rfl⟩
  rw [hk] at hb
  have hk64:k<64:=by rw [← hk];exact Nat.mod_lt _ (by decide)
  obtain ⟨a,cap,hbx,hlie,hfrm,ho⟩:=hC.lies
  have hil:=(List.getElem?_eq_some_iff.1 hr).1
  obtain ⟨gr,rfl,hBr,hgr⟩:=hfrm (by omega)
  have hrm:=List.mem_of_getElem? hr
  obtain ⟨r1,r2,r3,r4,r5⟩:=hC.row r hrm
  have hrk:=z7z hk64 hb
  rw [← r3] at hrk
  have h64:r.hs.length≤1000:=by rw [r3,z2T];have:=zaY r.live 64;omega
  have hcell:=hbx.cell 0
  have hgh:=(r5.lt r.gh rfl).2
  have hg_gr:g≠gr:=fun e=>by
    obtain ⟨c,hc,_⟩:=z0z ho (b:=gr) rfl
    rw [← e,show w.heap[g]?=_ from hbx] at hc
    cases hc
  have hg_gh:g≠r.gh:=fun e=>by
    obtain ⟨c,hc,_⟩:=z0z r5 (b:=r.gh) rfl
    rw [← e,show w.heap[g]?=_ from hbx] at hc
    cases hc
  have hgh_gr:r.gh≠gr:=fun e=>z2z ho r5 (by rw [← e];rfl)
  refine (zdO B g gr i rs.length cap p k r.live (CLR r.live k) r.hs.length (r.hs.length - 1) (RK r.live k) (RK r.live k+1) r.gh r.ch (RC rs) (HL r.hs) w hbx ho hil (z2q rs i 1 r hr (by decide)) (z2q rs i 2 r hr (by decide)) r5 rfl rfl rfl hrk h64 r2 hk hp hC.far (zfl r2 hk64) zgv zgu ⟨hgh_gr,hg_gr,hg_gh⟩ (z3e hC hr hn w (Below.refl _ _))).mono ?_
  rintro e w' ⟨he,hcase,t2,t3,t4,t5⟩
  refine ⟨he,?_⟩
  obtain ⟨r',hr'⟩:∃ r':ROW,r'=⟨r.num,CLR r.live k,r.gh,r.ch,r.hs.eraseIdx (RK r.live k)⟩:=⟨_,rfl⟩
  have hlen:(r.hs.eraseIdx (RK r.live k)).length=r.hs.length - 1:=by rw [List.length_eraseIdx,if_pos hrk]
  have hxs:((RC rs).set (i*3+2) (.slice (some ⟨r.gh,0,none⟩) (r.hs.length - 1) r.ch)).set (i*3+1) (.int .u64 ((CLR r.live k:Nat):Int))=RC (rs.set i r'):=by
    rw [zcg rs i r r' hr (by rw [hr']),hr']
    show _=((RC rs).set (i*3+2) (.slice (some ⟨r.gh,0,none⟩) (r.hs.eraseIdx (RK r.live k)).length r.ch)).set (i*3+1) (.int .u64 ((CLR r.live k:Nat):Int))
    rw [hlen]
  rw [hxs] at hcase
  rw [zgs] at t2
  have hfr:∀ j s,j≠i→rs[j]?=some s→w'.heap[s.gh]?=w.heap[s.gh]?:=fun j s hj hjs=>by
    have h5:=(hC.row s (List.mem_of_getElem? hjs)).2.2.2.2
    refine t5 s.gh (h5.lt s.gh rfl).2 (fun e=>?_) (fun e=>z2z ho h5 (by rw [← e];rfl)) (hC.apart j i s r hj hjs hr)
    obtain ⟨c,hc,_⟩:=z0z h5 (b:=s.gh) rfl
    rw [e,show w.heap[g]?=_ from hbx] at hc
    cases hc
  have main:∃ rs' n,FEWER rs rs' i r'∧Has w' g #[.slice (some ⟨gr,0,none⟩) n cap] 207∧n=rs'.length∧w'.ownsRow B 213 3 (.slice (some ⟨gr,0,none⟩) n cap) n (RC rs'):=by
    rcases hcase with ⟨h0,c1,c2⟩ | ⟨h0,c1,c2⟩
    · exact ⟨rs.set i r',_,zch hil (by rw [hr'];exact h0),c1,by simp,c2⟩
    · rw [zgt,List.eraseIdx_set_eq] at c2
      exact ⟨rs.eraseIdx i,_,z9c hil (by rw [hr'];exact h0),c1,by rw [List.length_eraseIdx,if_pos hil],c2⟩
  obtain ⟨rs',n,hF,c1,hnn,c2⟩:=main
  subst hnn
  have hF':=hF
  rw [hr'] at hF'
  refine ⟨rs',hC.fewer hr hk64 hb hF' c1 c2 hlen t2 hfr,zb4 hr hn hk r2 hb hC.rise hF',fun s hs=>?_,fun v v' e1 e2=>?_,t3,t4,fun b h1 h2 h3 h4=>t5 b h1 h2 (fun e=>h3 _ hcell (by rw [e];rfl)) (fun e=>h4 r hrm e.symm)⟩
  · rcases hF'.back hs with ⟨j,_,hjs⟩ | ⟨rfl,_⟩
    · exact ⟨s,List.mem_of_getElem? hjs,rfl,rfl,fun _ _ h=>h⟩
    · refine ⟨r,hrm,rfl,rfl,fun j _ hj=>?_⟩
      have hj':(CLR r.live k).testBit j=true:=hj
      rw [z2L r2 hk64] at hj'
      cases hx:r.live.testBit j
      · rw [hx] at hj';cases hj'
      · rfl
  · rw [hcell] at e1
    rw [c1.cell 0] at e2
    have e1:=Option.some.inj e1
    have e2:=Option.some.inj e2
    rw [← e1,← e2]
    rfl
end Go.Proofs.YtnmalbngdhjhjaaGreatDoor.HX
