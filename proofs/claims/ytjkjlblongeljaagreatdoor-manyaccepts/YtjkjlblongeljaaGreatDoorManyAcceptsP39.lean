/- Texts of ManyAccepts, one behind the other: ManyTexts, MmrAppendPlain, MmrAppend, MmrAwakeRegion, MmrAwake, MmrOldState, ManySub. -/
import Derived.Test.YtjkjlblongeljaaGreatDoorManyAcceptsP38
namespace Go.Proofs.YtjkjlblongeljaaGreatDoor
open Go.RowKit
set_option maxRecDepth 100000
set_option maxHeartbeats 1000000 in
theorem zej (a:Option Addr) (n c:Nat) (hn:n≤1000) (hc:a=none→c=0) (l:List Int) (w:World) (hF:Flat w a n l):Calls Tryz.prog 23 #[.slice a n c] w (zgj w n l):=by
  have HA:Aside (n≤1000∧(a=none→c=0)∧Flat w a n l):=⟨hn,hc,hF⟩
  clear hn hc hF
  go_enter Tryz.func23,Tryz.ntmps23
  go_wp2_with (first
    | (at_builtin;refine zaP _ rfl (.tmp 3) (.tmp 4) rfl w.heap.size (.slice (some ⟨w.heap.size,0,none⟩) 0 0) 0 [] rfl (z8S w) a n c l rfl (HA.out.2.2.below ((Below.refl _ _).alloc (Nat.le_refl _) _)) HA.out.2.1 (by have:=HA.out.1;omega) (by simp) ?_;rw [Nat.zero_add,List.nil_append];intro a1 c1 w1 hown1 hgrow1
       have R1:Aside (w1.ownsRow w.heap.size 35 32 (.slice a1 n c1) n (z00 l)∧Below w.heap.size w w1):=⟨hown1,((Below.refl _ w).alloc (Nat.le_refl _) _).grown hgrow1 (by simp) (fun k e=>by cases e;exact Nat.le_refl _)⟩
       clear hown1 hgrow1)
    | (rw [← zf2];refine z1n _ rfl 22 35 (.tmp 6) rfl (z00 MRK).toArray rfl 32 _ _ Tryz.underlying22 z0K (by rfl) rfl (by decide) (by decide) ?_)
    | (at_builtin;refine z2Z _ rfl (.tmp 5) (.tmp 7) rfl w.heap.size (.slice a1 n c1) n (z00 l) rfl (R1.out.1.alloc _) w1.heap.size 1 MRK rfl rfl (Has.new _ _ _) (by have:=HA.out.1;omega) (by have:=R1.out.2.size;simp;omega) ?_;intro g2 c2 w2 hown2 hgrow2 hat2 hg2
       obtain ⟨f1,f2,f3,f4⟩:=z8R hown2 HA.out.2.2.1 rfl
       have hcap:(n:Int)≤(c2:Int):=by omega
       have R2:Aside (w2.ownsRow w.heap.size 35 32 (.slice (some ⟨g2,0,none⟩) n c2) n (z00 l)∧n+1≤c2∧w2.rangeAt g2 (n*32) (z00 MRK)∧g2<w2.heap.size∧Below w.heap.size w w2):=⟨f1,f2,f3,f4,(R1.out.2.alloc R1.out.2.size _).grown hgrow2 (by have:=R1.out.2.size;simp;omega) (fun k e=>(R1.out.1.lt k e).1)⟩
       clear hown2 hgrow2 hat2 hg2 f1 f2 f3 f4))
  go_ret
  exact ⟨_,_,rfl,R2.out⟩
set_option maxHeartbeats 1000000 in
theorem zcN (N:Int) (a b:Option Addr) (n ca cb:Nat) (L:List Nat) (x y:Option Addr) (m k cx cy:Nat) (l:List Int) (hl:L.length=n) (hn:n≤2 ^ 24) (w:World) (hA:NUML w a L) (hB:NUML w b L) (hX:Flat w x m l) (hY:Flat w y k l) (hm:m≤1000000):
    Calls Tryz.prog 16 #[.agg #[.int .u64 N,.slice a n ca,.slice x m cx],.agg #[.int .u64 N,.slice b n cb,.slice y k cy]] w fun e w'=>e=.returned (.bool true)∧Below w.heap.size w w':=by
  obtain ⟨w1,e1⟩:∃ w1,w.alloc (.cells #[.int .u64 N,.slice a n ca,.slice x m cx] 46)=w1:=⟨_,rfl⟩
  obtain ⟨w2,e2⟩:∃ w2,w1.alloc (.cells #[.int .u64 N,.slice b n cb,.slice y k cy] 46)=w2:=⟨_,rfl⟩
  have hb2:Below w.heap.size w w2:=by rw [← e2,← e1];exact ((Below.refl _ _).alloc (Nat.le_refl _) _).alloc (by simp) _
  have h1:Has w2 w.heap.size #[.int .u64 N,.slice a n ca,.slice x m cx] 46:=by rw [← e2,← e1];exact (Has.new w _ _).alloc _
  have h2:Has w2 w1.heap.size #[.int .u64 N,.slice b n cb,.slice y k cy] 46:=by rw [← e2];exact Has.new w1 _ _
  have x0:=h1.cell 0
  have x1:=h1.cell 1
  have y0:=h2.cell 0
  have y1:=h2.cell 1
  have cs:=z9d a b n ca cb L hl hn w2 (hA.keep hb2) (hB.keep hb2)
  have HA:Aside (Has w2 w.heap.size #[.int .u64 N,.slice a n ca,.slice x m cx] 46∧Has w2 w1.heap.size #[.int .u64 N,.slice b n cb,.slice y k cy] 46∧Below w.heap.size w w2∧Flat w x m l∧Flat w y k l∧m≤1000000):=⟨h1,h2,hb2,hX,hY,hm⟩
  clear hl hn hA hB hX hY hm hb2 h1 h2
  go_enter Tryz.func16,Tryz.ntmps16
  go_wp2_with fail
  refine cs.mono ?_
  rintro e w3 ⟨rfl,hb3⟩
  have k1:=HA.out.1.keep hb3
  have k2:=HA.out.2.1.keep hb3
  have x2:=k1.cell 2
  have y2:=k2.cell 2
  have B3:Aside (Below w.heap.size w w3):=HA.out.2.2.1.trans (hb3.mono HA.out.2.2.1.size)
  have ch:=z74 x y m k cx cy l l w3 (HA.out.2.2.2.1.below B3.out) (HA.out.2.2.2.2.1.below B3.out) HA.out.2.2.2.2.2
  rw [decide_eq_true rfl] at ch
  clear cs hb3 k1 k2 x0 x1 y0 y1 e1 e2 HA
  go_wp2_with fail
  refine ch.mono ?_
  rintro e w4 ⟨rfl,hb4⟩
  have B4:Aside (Below w.heap.size w w4):=B3.out.trans (hb4.mono B3.out.size)
  clear ch hb4 B3
  go_wp2_with fail
  go_ret
  exact ⟨rfl,B4.out⟩
end Go.Proofs.YtjkjlblongeljaaGreatDoor

namespace Go.Proofs.YtjkjlblongeljaaGreatDoor.HX
open Go.RowKit
set_option maxRecDepth 100000
structure GROWING (w wx:World) (B g:Nat) (d:Int) (log n j b:Nat) (C Cj:z05) (f:Nat→Nat→Nat):Prop where
  store:STORE wx B g log (z04 n+1+j) (z04 n+1+j) (z04 n+1+j) Cj
  width:wx.cell? ⟨g,5,none⟩=some (.int .i64 d)
  size:wx.cell? ⟨g,6,none⟩=some (.int .u64 ((n+1:Nat):Int))
  free:wx.frozen? ⟨g,6,none⟩=false
  old:∀ h k,(k+1)*2 ^ h≤n→AT Cj log (PLC h k)=some (VAL d f h k)
  new:∀ i,i≤j→AT Cj log (z04 n+i)=some (VAL d f i (n / 2 ^ i))
  ones:ONES n j
  held:Has wx b (UARR .u8 32 (VAL d f j (n / 2 ^ j))) 35
  off:¬ FOOT wx g Cj b
  step:TSTEP w wx g C Cj
  below:Below B w wx
  base:w.heap.size≤b
theorem GROWING.lt {w wx:World} {B g:Nat} {d:Int} {log n j b:Nat} {C Cj:z05} {f:Nat→Nat→Nat} (h:GROWING w wx B g d log n j b C Cj f):b≠g∧b<wx.heap.size∧g<wx.heap.size:=by
  refine ⟨fun e=>?_,h.held.lt,h.store.lt⟩
  obtain ⟨cs,t,fr,k1,_,_,k4⟩:=h.store.kind
  have h1:=h.held
  unfold Has at h1
  rw [e,k1] at h1
  cases Option.some.inj h1
  exact k4 rfl
theorem GROWING.keep {w wx w':World} {B g:Nat} {d:Int} {log n j b:Nat} {C Cj:z05} {f:Nat→Nat→Nat} (h:GROWING w wx B g d log n j b C Cj f) (hBx:B≤wx.heap.size) (hb:Below wx.heap.size wx w'):GROWING w w' B g d log n j b C Cj f:=by
  have hg:=h.store.lt
  have hst:=STEP.below h.store hb
  refine ⟨h.store.below hb,(hb.cell (p:=⟨g,5,none⟩) hg).trans h.width,(hb.cell (p:=⟨g,6,none⟩) hg).trans h.size,(World.frozen?_of_block (w:=wx) (by exact hb.block g hg)).trans h.free,h.old,h.new,h.ones,h.held.keep hb,fun hf=>?_,h.step.trans hst.tree,h.below.trans (hb.mono hBx),h.base⟩
  rcases hst.foot b hf with h1 | h1
  · exact h.off h1
  · have:=h.lt.2.1
    omega
theorem GROWING.moved {w wx:World} {B g:Nat} {d:Int} {log n j b:Nat} {C Cj:z05} {f:Nat→Nat→Nat} (h:GROWING w wx B g d log n j b C Cj f) (hBx:B≤wx.heap.size):
    GROWING w (wx.alloc (.cells (UARR .u8 32 (VAL d f j (n / 2 ^ j))) 35)) B g d log n j wx.heap.size C Cj f:=by
  have hk:=h.keep hBx ((Below.refl _ _).alloc (Nat.le_refl _) (.cells (UARR .u8 32 (VAL d f j (n / 2 ^ j))) 35))
  refine ⟨hk.store,hk.width,hk.size,hk.free,hk.old,hk.new,hk.ones,Has.new _ _ _,fun hf=>?_,hk.step,hk.below,h.step.size⟩
  exact absurd (h.store.foot_lt (h.store.foot_below ((Below.refl wx.heap.size wx).alloc (Nat.le_refl _) _) hf)) (Nat.lt_irrefl _)
theorem GROWING.off_row {w wx:World} {B g:Nat} {d:Int} {log n j b:Nat} {C Cj:z05} {f:Nat→Nat→Nat} (h:GROWING w wx B g d log n j b C Cj f) (hBw:B≤w.heap.size) (y:Nat→Nat):
    STORE (wx.setRow b (UARR .u8 32 y)) B g log (z04 n+1+j) (z04 n+1+j) (z04 n+1+j) Cj∧(∀ i,(wx.setRow b (UARR .u8 32 y)).cell? ⟨g,i,none⟩=wx.cell? ⟨g,i,none⟩)∧(wx.setRow b (UARR .u8 32 y)).frozen? ⟨g,6,none⟩=false∧Has (wx.setRow b (UARR .u8 32 y)) b (UARR .u8 32 y) 35∧¬ FOOT (wx.setRow b (UARR .u8 32 y)) g Cj b∧TSTEP w (wx.setRow b (UARR .u8 32 y)) g C Cj∧Below B w (wx.setRow b (UARR .u8 32 y)):=by
  have hblk:∀ x,x≠b→(wx.setRow b (UARR .u8 32 y)).heap[x]?=wx.heap[x]?:=fun x hx=>setRow_other wx b x _ hx
  have hsz:(wx.setRow b (UARR .u8 32 y)).heap.size=wx.heap.size:=by simp
  obtain ⟨hbg,hbl,hgl⟩:=h.lt
  obtain ⟨s1,s2,s3⟩:=h.store.same (b:=b) (fun x _ hx=>hblk x hx) h.off (fun e=>hbg e.symm)
  refine ⟨s1,s3,(World.frozen?_of_block (w:=wx) (by exact hblk g (fun e=>hbg e.symm))).trans h.free,h.held.row _,fun hf=>h.off (s2 b hf),⟨fun x hx=>h.step.foot x (s2 x hx),fun x hx hxg hf=>?_,by rw [hsz];exact h.step.size⟩,z06 h.below (Nat.le_trans hBw h.base) _⟩
  have hxb:x≠b:=fun e=>by have:=h.base;omega
  exact (hblk x hxb).trans (h.step.same x hx hxg hf)
theorem z6q {w wx w':World} {B g:Nat} {d:Int} {log n j b:Nat} {C Cj:z05} {f:Nat→Nat→Nat} {y:Nat→Nat}
    (hw5:wx.cell? ⟨g,5,none⟩=some (.int .i64 d)) (hw6:wx.cell? ⟨g,6,none⟩=some (.int .u64 ((n+1:Nat):Int)))
    (hold:∀ h k,(k+1)*2 ^ h≤n→AT Cj log (PLC h k)=some (VAL d f h k)) (hnew:∀ i,i≤j→AT Cj log (z04 n+i)=some (VAL d f i (n / 2 ^ i))) (hones:ONES n (j+1))
    (hheld:Has wx b (UARR .u8 32 y) 35) (hy:y=VAL d f (j+1) (n / 2 ^ (j+1))) (hoff:¬ FOOT wx g Cj b) (hbg:b≠g) (hstep:TSTEP w wx g C Cj) (hbel:Below B w wx) (hbase:w.heap.size≤b)
    (hP:z3w wx B g log (z04 n+1+j) (z04 n+1+j) (z04 n+1+j) Cj y w'):∃ C',GROWING w w' B g d log n (j+1) b C C' f:=by
  obtain ⟨C',s1,s2,s3,s4⟩:=hP
  have hbl:=hheld.lt
  refine ⟨C',⟨s1,(s3.pins 5 (by decide)).trans hw5,(s3.pins 6 (by decide)).trans hw6,s1.live 6 (by decide),fun h k hk=>?_,fun i hi=>?_,hones,?_,fun hf=>?_,hstep.trans s3.tree,hbel.trans s4,hbase⟩⟩
  · rw [s2,if_neg ?_]
    · exact hold h k hk
    · have h1:=z3i hk
      omega
  · by_cases e:i=j+1
    · subst e
      rw [s2,if_pos (by omega),hy]
    · rw [s2,if_neg (by omega)]
      exact hnew i (by omega)
  · rw [← hy]
    exact (s3.same b hbl hbg hoff).trans hheld
  · rcases s3.foot b hf with h1 | h1
    · exact hoff h1
    · omega
end Go.Proofs.YtjkjlblongeljaaGreatDoor.HX

namespace Go.Proofs.YtjkjlblongeljaaGreatDoor.HX
open Go.RowKit
set_option maxRecDepth 100000
def z39 (w:World) (B g:Nat) (d:Int) (log n:Nat) (C:z05) (f:Nat→Nat→Nat) (x:Nat→Nat) (w':World):Prop:=∃ C',FOREST w' B g d log (n+1) C' (z0A f n x)∧TSTEP w w' g C C'∧Below B w w'
theorem z8h {n:Nat} (h:n<2 ^ 40):IntKind.u64.wrap ((n:Int)+1)=((n+1:Nat):Int):=by
  simp [IntKind.wrap,IntKind.signed,IntKind.bits]
  omega
theorem ONES.small {n j:Nat} (h:ONES n j) (hn:n<2 ^ 20):j≤20:=by
  rcases Nat.lt_or_ge 20 j with h1 | h1
  · have h2:=h.span
    have h3:2 ^ 21≤2 ^ j:=Nat.pow_le_pow_right (by decide) h1
    have h4:1*2 ^ j≤(n / 2 ^ j+1)*2 ^ j:=Nat.mul_le_mul_right _ (Nat.le_add_left 1 _)
    generalize n / 2 ^ j=q at *
    omega
  · exact h1
theorem ONES.node {n j:Nat} (h:ONES n j) (hn:n<2 ^ 20):Node j (n / 2 ^ j):=by
  have hj:=h.small hn
  refine ⟨by omega,Nat.lt_of_le_of_lt (Nat.div_le_self _ _) (Nat.lt_of_lt_of_le hn (Nat.pow_le_pow_right (by decide) (by omega)))⟩
theorem z79 {w W1 W:World} {B g:Nat} {d:Int} {log n b:Nat} {C:z05} {f:Nat→Nat→Nat} {x:Nat→Nat} (hnode:∀ h k,(k+1)*2 ^ h≤n→AT C log (PLC h k)=some (VAL d f h k)) (hw5:W1.cell? ⟨g,5,none⟩=some (.int .i64 d)) (hw6:W1.cell? ⟨g,6,none⟩=some (.int .u64 ((n+1:Nat):Int)))
    (hheld:Has W1 b (UARR .u8 32 x) 35) (hoff:¬ FOOT W1 g C b) (hbg:b≠g) (hstep:TSTEP w W1 g C C) (hbel:Below B w W1) (hbase:w.heap.size≤b)
    (hP:z3w W1 B g log (z04 n) (z04 n) (z04 n) C x W):∃ C',GROWING w W B g d log n 0 b C C' (z0A f n x):=by
  obtain ⟨C',s1,s2,s3,s4⟩:=hP
  have hbl:=hheld.lt
  have hx:VAL d (z0A f n x) 0 (n / 2 ^ 0)=x:=by rw [Nat.pow_zero,Nat.div_one];exact z7X f n x
  refine ⟨C',⟨s1,(s3.pins 5 (by decide)).trans hw5,(s3.pins 6 (by decide)).trans hw6,s1.live 6 (by decide),fun h k hk=>?_,fun i hi=>?_,fun i hi=>by omega,?_,fun hf=>?_,hstep.trans s3.tree,hbel.trans s4,hbase⟩⟩
  · have h1:=z3i hk
    rw [s2,if_neg (by omega),hnode h k hk,z1F (fun k hk=>(zc6 f n x hk).symm) h k hk]
  · obtain rfl:i=0:=by omega
    rw [s2,if_pos (Nat.add_zero _),hx]
  · rw [hx]
    exact (s3.same b hbl hbg hoff).trans hheld
  · rcases s3.foot b hf with h1 | h1
    · exact hoff h1
    · omega
theorem GROWING.done {w wx:World} {B g:Nat} {d:Int} {log n j b:Nat} {C Cj:z05} {f:Nat→Nat→Nat} {x:Nat→Nat} (h:GROWING w wx B g d log n j b C Cj (z0A f n x)) (he:n / 2 ^ j % 2=0) (hn:n<2 ^ 20) (hbyte:∀ k,k<n→∀ i,f k i<256) (h8:∀ i,x i<256) (hBg:B≤g):z39 w B g d log n C f x wx:=by
  have hnd:=h.ones.nodes he
  have e1:z04 (n+1)=z04 n+1+j:=by omega
  refine ⟨Cj,⟨by rw [e1];exact h.store,h.width,h.size,h.free,fun h1 k hk=>?_,fun k hk i=>?_,by omega,hBg⟩,h.step,h.below⟩
  · by_cases e:(k+1)*2 ^ h1=n+1
    · obtain ⟨rfl,ho⟩:=ONES.of_span e
      have hle:h1≤j:=by
        rcases Nat.lt_or_ge j h1 with hlt | hge
        · have:=ho j hlt
          omega
        · exact hge
      rw [ho.place]
      exact h.new h1 hle
    · exact h.old h1 k (by omega)
  · unfold z0A
    split
    · exact h8 i
    · exact hbyte k (by omega) i
set_option maxHeartbeats 4000000 in
theorem zcO {w:World} {B g:Nat} {d:Int} {log n:Nat} {C:z05} {f:Nat→Nat→Nat} (hF:FOREST w B g d log n C f) (x:Nat→Nat) (h8:∀ i,x i<256) (hn:n<2 ^ 20) (hT:Tabled w) (hGB:1<B) (hB:B≤w.heap.size):
    Calls Tryz.prog 8 #[.pointer (some ⟨g,0,none⟩),.agg (UARR .u8 32 x)] w fun e w'=>e=.returned (.int .u64 (n:Int))∧z39 w B g d log n C f x w':=by
  obtain ⟨w0,hw0⟩:∃ w0,w.alloc (.cells (UARR .u8 32 x) 35)=w0:=⟨_,rfl⟩
  have hb0:Below w.heap.size w w0:=by rw [← hw0];exact (Below.refl _ _).alloc (Nat.le_refl _) _
  have h30:Has w0 w.heap.size (UARR .u8 32 x) 35:=by rw [← hw0];exact Has.new w _ _
  have hF0:=hF.below hb0
  have c6:=hF0.size
  have f6:=hF0.free
  have cl:=Go.Proofs.YtjkjlblongeljaaGreatDoor.leaf_ok n (by omega)
  have eu:=z8h (n:=n) (by omega)
  go_enter Tryz.func8,Tryz.ntmps8
  go_wp2_with fail
  refine (cl _).mono ?_
  rintro e w1 ⟨rfl,rfl⟩
  clear cl
  go_upto_region 6 with fail
  have hgl:=hF.store.lt
  obtain ⟨hS1,hst1⟩:=hF0.store.side 6 (by decide) (.int .u64 ((n:Int)+1))
  have hbg:w.heap.size≠g:=by omega
  have h31:Has (w0.setCell ⟨g,6,none⟩ (.int .u64 ((n:Int)+1))) w.heap.size (UARR .u8 32 x) 35:=h30.other hbg _
  have hw5:(w0.setCell ⟨g,6,none⟩ (.int .u64 ((n:Int)+1))).cell? ⟨g,5,none⟩=some (.int .i64 d):=(z2l (by decide) _).trans hF0.width
  have hw6:(w0.setCell ⟨g,6,none⟩ (.int .u64 ((n:Int)+1))).cell? ⟨g,6,none⟩=some (.int .u64 ((n+1:Nat):Int)):=World.cell?_setCell_same _ _ _ hF0.size
  have hbel1:Below B w (w0.setCell ⟨g,6,none⟩ (.int .u64 ((n:Int)+1))):=(hb0.mono hB).setCell (p:=⟨g,6,none⟩) hF.base _
  have hst:TSTEP w (w0.setCell ⟨g,6,none⟩ (.int .u64 ((n:Int)+1))) g C C:=(STEP.below hF.store hb0).tree.trans hst1
  have hoff:¬ FOOT (w0.setCell ⟨g,6,none⟩ (.int .u64 ((n:Int)+1))) g C w.heap.size:=fun hf=>by
    rcases hst1.foot _ hf with h1 | h1
    · exact Nat.lt_irrefl _ (hF.store.foot_lt (hF.store.foot_below hb0 h1))
    · have:=h30.lt
      omega
  have hb3:w.heap.size≤w.heap.size:=Nat.le_refl _
  have A1:Aside ((∀ h k,(k+1)*2 ^ h≤n→AT C log (PLC h k)=some (VAL d f h k))∧(∀ k,k<n→∀ i,f k i<256)∧(∀ i,x i<256)∧n<2 ^ 20∧Tabled w∧1<B∧B≤w.heap.size∧B≤g):=⟨hF.node,hF.byte,h8,hn,hT,hGB,hB,hF.base⟩
  generalize w0.setCell ⟨g,6,none⟩ (.int .u64 ((n:Int)+1))=W1 at *
  obtain ⟨b3,hb3e⟩:∃ b3,w.heap.size=b3:=⟨_,rfl⟩
  rw [hb3e] at h31 hoff hbg hb3 ⊢
  have A2:Aside (STORE W1 B g log (z04 n) (z04 n) (z04 n) C∧Has W1 b3 (UARR .u8 32 x) 35∧W1.cell? ⟨g,5,none⟩=some (.int .i64 d)∧W1.cell? ⟨g,6,none⟩=some (.int .u64 ((n+1:Nat):Int))∧Below B w W1∧TSTEP w W1 g C C∧¬ FOOT W1 g C b3∧b3≠g∧w.heap.size≤b3):=⟨hS1,h31,hw5,hw6,hbel1,hst,hoff,hbg,by omega⟩
  clear hF hF0 h30 hb0 c6 f6 hS1 hst1 hbg h31 hw5 hw6 hbel1 hst hoff hb3 hgl h8 hn hT hGB hB hw0 hb3e
  refine z8f W1 g b3 (z04 n) x (fun W=>W=W1.drew) (fun W=>z3w W1.drew B g log (z04 n) (z04 n) (z04 n) C x W) rfl (fun W e=>by rw [e];exact (show Has W1.drew b3 _ _ from A2.out.2.1).whole) (fun W hP=>?_) (fun W e=>?_) (fun _ _ _ _ _ h=>h) ?_
  · obtain ⟨C',s1,s2,s3,s4⟩:=hP
    exact (show Has W b3 (UARR .u8 32 x) 35 from (s3.same b3 A2.out.2.1.lt A2.out.2.2.2.2.2.2.2.1 A2.out.2.2.2.2.2.2.1).trans A2.out.2.1).whole
  · subst e
    have hlt:z04 n<2 ^ 22:=Nat.lt_trans (z3k (h:=20) A1.out.2.2.2.1) (by decide)
    exact z9W (A2.out.1.below (Below.refl _ _).drew) x A1.out.2.2.1 (by omega) (by omega) A1.out.2.2.2.2.2.2.2 (by omega)
  · intro W hP
    have hG:∃ C',GROWING w W B g d log n 0 b3 C C' (z0A f n x):=z79 (W1:=W1.drew) A1.out.1 A2.out.2.2.1 A2.out.2.2.2.1 A2.out.2.1 A2.out.2.2.2.2.2.2.1 A2.out.2.2.2.2.2.2.2.1 (A2.out.2.2.2.2.2.1.trans (STEP.below A2.out.1 (Below.refl _ _).drew).tree) A2.out.2.2.2.2.1.drew A2.out.2.2.2.2.2.2.2.2 hP
    clear hP A2
    obtain ⟨C0,hG⟩:=hG
    have hBW:B≤W.heap.size:=Nat.le_trans A1.out.2.2.2.2.2.2.1 hG.step.size
    have hG2:=hG.moved hBW
    have hv:VAL d (z0A f n x) 0 (n / 2 ^ 0)=x:=by rw [Nat.pow_zero,Nat.div_one];exact z7X f n x
    rw [hv] at hG2
    have hx3:=hG.held
    rw [hv] at hx3
    have A3:Aside (GROWING w (W.alloc (.cells (UARR .u8 32 x) 35)) B g d log n 0 W.heap.size C C0 (z0A f n x)):=hG2
    have hst:=run_storeCells_new (P:=Tryz.prog) W 35 (UARR .u8 32 fun _=>0) (UARR .u8 32 x) (z03 _) (by rw [z01,z01]) (z0f _ _ _)
    have hsu:=z01 .u8 32 x
    have hz:=z0X
    clear hG hG2 hv hBW
    go_wp2_with (first
      | (refine wpList_load_row rfl 35 (.tmp 3) rfl b3 rfl 35 (UARR .u8 32 x) (0,0) _ hx3 Tryz.underlying35 rfl (z03 _) ?_)
      | fail)
    clear hst hsu hx3
    obtain ⟨W2,hW2⟩:∃ W2,W.alloc (.cells (UARR .u8 32 x) 35)=W2:=⟨_,rfl⟩
    rw [hW2] at A3 ⊢
    obtain ⟨b8,hb8⟩:∃ b8,W.heap.size=b8:=⟨_,rfl⟩
    rw [hb8] at A3 ⊢
    clear hW2 hb8
    go_loopg [6,8] n (fun r s6 s8 wx=>∃ (j b:Nat) (Cj:z05),s6=.int .u64 ((z04 n+j:Nat):Int)∧s8=.pointer (some ⟨b,0,none⟩)∧Aside (j+r=n∧GROWING w wx B g d log n j b C Cj (z0A f n x)))
    case atStart=>exact ⟨0,b8,C0,rfl,rfl,by omega,A3.out⟩
    case round=>
      obtain ⟨j,b,Cj,rfl,rfl,A⟩:=hrel
      clear A3
      have hones:=A.out.2.ones
      have hN:=hones.node A1.out.2.2.2.1
      have hpl:=hones.place
      have cr:=Go.Proofs.YtjkjlblongeljaaGreatDoor.right_ok j (n / 2 ^ j) hN
      rw [hpl] at cr
      by_cases hodd:n / 2 ^ j % 2=1
      · have hev:decide (n / 2 ^ j % 2=1)=true:=decide_eq_true hodd
        rw [hev] at cr
        have hbx:B≤wr.heap.size:=Nat.le_trans A1.out.2.2.2.2.2.2.1 A.out.2.step.size
        have hnx:=hones.next hodd
        obtain ⟨r,rfl⟩:∃ r,gk=r+1:=⟨gk - 1,by have:=hnx.lt;have:=A.out.1;omega⟩
        have A4:Aside (GROWING w wr B g d log n j b C Cj (z0A f n x)∧B≤wr.heap.size∧ONES n (j+1)∧Node j (n / 2 ^ j)∧PLC j (n / 2 ^ j)=z04 n+j∧n / 2 ^ j=2*(n / 2 ^ (j+1))+1∧j+1+r=n∧j≤20):=⟨A.out.2,hbx,hnx,hN,hpl,by rw [z1o];omega,by have:=A.out.1;omega,hones.small A1.out.2.2.2.1⟩
        clear hev hodd hN hpl hones A hbx hnx
        go_wp2_with fail
        refine (cr _).mono ?_
        rintro e wa ⟨rfl,hba⟩
        clear cr
        have hGa:=A4.out.1.keep A4.out.2.1 hba
        have hBa:B≤wa.heap.size:=Nat.le_trans A4.out.2.1 hba.size
        clear hba
        obtain ⟨L,hL⟩:∃ L,VAL d (z0A f n x) j (2*(n / 2 ^ (j+1)))=L:=⟨_,rfl⟩
        obtain ⟨X,hX⟩:∃ X,VAL d (z0A f n x) j (n / 2 ^ j)=X:=⟨_,rfl⟩
        obtain ⟨Y,hY⟩:∃ Y,VAL d (z0A f n x) (j+1) (n / 2 ^ (j+1))=Y:=⟨_,rfl⟩
        have hYN:Y=z0y d (1 :: ((List.range 32).map L ++ (List.range 32).map X)):=by
          rw [← hY,VAL,hL,← A4.out.2.2.2.2.2.1,hX]
          rfl
        have hspan:=(ONES.span (n:=n) (j:=j) fun i hi=>A4.out.2.2.1 i (by omega))
        have hleft:(2*(n / 2 ^ (j+1))+1)*2 ^ j≤n:=by
          rw [← A4.out.2.2.2.2.2.1]
          have h1:(n / 2 ^ j+1)*2 ^ j=n / 2 ^ j*2 ^ j+2 ^ j:=by rw [Nat.add_mul,Nat.one_mul]
          have h2:0<2 ^ j:=Nat.two_pow_pos j
          omega
        have hbytes:∀ k,k<n+1→∀ i,z0A f n x k i<256:=fun k hk i=>by
          unfold z0A
          split
          · exact A1.out.2.2.1 i
          · exact A1.out.2.1 k (by omega) i
        have hL8:∀ i,L i<256:=fun i=>by rw [← hL];exact z2g hbytes _ _ (by omega) i
        have hX8:∀ i,X i<256:=fun i=>by rw [← hX];exact z2g hbytes _ _ (by omega) i
        have hY8:∀ i,Y i<256:=fun i=>by rw [hYN];exact z1X d _ _ i
        have hsib:SIB (n / 2 ^ j)=2*(n / 2 ^ (j+1)):=by rw [A4.out.2.2.2.2.2.1];unfold SIB;rw [if_pos (by omega)];omega
        have hatL:AT Cj log (PLC j (SIB (n / 2 ^ j)))=some L:=by rw [hsib,hGa.old j _ hleft,hL]
        have hltL:PLC j (SIB (n / 2 ^ j))<z04 n+1+j:=by rw [hsib];have:=z3i hleft;omega
        have hheld:Has wa b (UARR .u8 32 X) 35:=by rw [← hX];exact hGa.held
        have hTa:Tabled wa:=⟨fun i hi=>(hGa.below.cell (by show 1<B;have:=A1.out.2.2.2.2.2.1;omega)).trans (A1.out.2.2.2.2.1.1 i hi),fun i hi=>(hGa.below.cell (by show 0<B;have:=A1.out.2.2.2.2.2.1;omega)).trans (A1.out.2.2.2.2.1.2.1 i hi),by have:=A1.out.2.2.2.2.2.1;omega⟩
        have A5:Aside (GROWING w wa B g d log n j b C Cj (z0A f n x)∧B≤wa.heap.size∧Has wa b (UARR .u8 32 X) 35∧Tabled wa∧(∀ i,L i<256)∧(∀ i,X i<256)∧(∀ i,Y i<256)∧Y=z0y d (1 :: ((List.range 32).map L ++ (List.range 32).map X))∧AT Cj log (PLC j (SIB (n / 2 ^ j)))=some L∧PLC j (SIB (n / 2 ^ j))<z04 n+1+j∧VAL d (z0A f n x) (j+1) (n / 2 ^ (j+1))=Y):=⟨hGa,hBa,hheld,hTa,hL8,hX8,hY8,hYN,hatL,hltL,hY⟩
        clear hGa hBa hheld hTa hL8 hX8 hY8 hYN hatL hltL hY hsib hbytes hleft hspan hX hL
        go_upto_region 10 with fail
        refine z9a wa g b (z04 n+j) d L X Y (fun V=>Below wa.heap.size wa V) (Below.refl _ _).drew (fun V hV=>?_) (fun V hV=>?_) (fun V hV=>?_) (fun V hV=>?_) (fun _ _ _ _ _ h=>h) ?_
        · have h1:=A5.out.2.2.1.keep hV
          exact ⟨(A5.out.1.keep A5.out.2.1 hV).width,h1.whole,h1⟩
        · exact ((A5.out.1.keep A5.out.2.1 hV).off_row A1.out.2.2.2.2.2.2.1 Y).2.1 5 |>.trans (A5.out.1.keep A5.out.2.1 hV).width
        · have h1:=zf9 (A5.out.1.keep A5.out.2.1 hV).store j (n / 2 ^ j) A4.out.2.2.2.1 (by have:=A4.out.2.2.2.2.2.2.2;omega) A5.out.2.2.2.2.2.2.2.2.2.1 L A5.out.2.2.2.2.2.2.2.2.1
          rw [A4.out.2.2.2.2.1] at h1
          refine h1.mono ?_
          rintro e V' ⟨rfl,hb⟩
          exact ⟨rfl,hV.trans (hb.mono hV.size)⟩
        · refine (z9w d L X A5.out.2.2.2.2.1 A5.out.2.2.2.2.2.1 V (A5.out.2.2.2.1.below hV)).mono ?_
          rintro e V' ⟨rfl,hb⟩
          exact ⟨by rw [A5.out.2.2.2.2.2.2.2.1],hV.trans (hb.mono hV.size)⟩
        · intro W3 hW3
          obtain ⟨w0',hw0',hW3⟩:=hW3
          have hGw:=A5.out.1.keep A5.out.2.1 hw0'
          have hrow:=hGw.off_row A1.out.2.2.2.2.2.2.1 Y
          rw [← hW3] at hrow
          have A6:Aside (STORE W3 B g log (z04 n+1+j) (z04 n+1+j) (z04 n+1+j) Cj∧W3.cell? ⟨g,5,none⟩=some (.int .i64 d)∧W3.cell? ⟨g,6,none⟩=some (.int .u64 ((n+1:Nat):Int))∧Has W3 b (UARR .u8 32 Y) 35∧¬ FOOT W3 g Cj b∧TSTEP w W3 g C Cj∧Below B w W3∧b≠g∧w.heap.size≤b):=⟨hrow.1,(hrow.2.1 5).trans hGw.width,(hrow.2.1 6).trans hGw.size,hrow.2.2.2.1,hrow.2.2.2.2.1,hrow.2.2.2.2.2.1,hrow.2.2.2.2.2.2,hGw.lt.1,hGw.base⟩
          clear hW3 hGw hrow hw0'
          go_upto_region 11 with fail
          refine z99 W3 g b (z04 n+1+j) Y (fun V=>V=W3.drew) (fun V=>z3w W3.drew B g log (z04 n+1+j) (z04 n+1+j) (z04 n+1+j) Cj Y V) rfl (fun V e=>by rw [e];exact (show Has W3.drew b _ _ from A6.out.2.2.2.1).whole) (fun V hP=>?_) (fun V e=>?_) (fun _ _ _ _ _ h=>h) ?_
          · obtain ⟨C',s1,s2,s3,s4⟩:=hP
            exact (show Has V b (UARR .u8 32 Y) 35 from (s3.same b A6.out.2.2.2.1.lt A6.out.2.2.2.2.2.2.2.1 A6.out.2.2.2.2.1).trans A6.out.2.2.2.1).whole
          · subst e
            have hlt:z04 n<2 ^ 22:=Nat.lt_trans (z3k (h:=20) A1.out.2.2.2.1) (by decide)
            have h20:=A4.out.2.2.2.2.2.2.2
            exact z9W (A6.out.1.below (Below.refl _ _).drew) Y A5.out.2.2.2.2.2.2.1 (by omega) (by omega) A1.out.2.2.2.2.2.2.2 (by omega)
          · intro V hP
            have hG:∃ C',GROWING w V B g d log n (j+1) b C C' (z0A f n x):=z6q (wx:=W3.drew) A6.out.2.1 A6.out.2.2.1 A5.out.1.old A5.out.1.new A4.out.2.2.1 A6.out.2.2.2.1 A5.out.2.2.2.2.2.2.2.2.2.2.symm A6.out.2.2.2.2.1 A6.out.2.2.2.2.2.2.2.1 (A6.out.2.2.2.2.2.1.trans (STEP.below A6.out.1 (Below.refl _ _).drew).tree) A6.out.2.2.2.2.2.2.1.drew A6.out.2.2.2.2.2.2.2.2 hP
            clear hP A6
            obtain ⟨C0',hG⟩:=hG
            have hBV:B≤V.heap.size:=Nat.le_trans A1.out.2.2.2.2.2.2.1 hG.step.size
            have hG2:=hG.moved hBV
            rw [A5.out.2.2.2.2.2.2.2.2.2.2] at hG2
            have hx3:=hG.held
            rw [A5.out.2.2.2.2.2.2.2.2.2.2] at hx3
            have A7:Aside (GROWING w (V.alloc (.cells (UARR .u8 32 Y) 35)) B g d log n (j+1) V.heap.size C C0' (z0A f n x)):=hG2
            have hst:=run_storeCells_new (P:=Tryz.prog) V 35 (UARR .u8 32 fun _=>0) (UARR .u8 32 Y) (z03 _) (by rw [z01,z01]) (z0f _ _ _)
            have hsu:=z01 .u8 32 Y
            have en:=z8h (n:=z04 n+j) (by have hlt:z04 n<2 ^ 22:=Nat.lt_trans (z3k (h:=20) A1.out.2.2.2.1) (by decide);have h20:=A4.out.2.2.2.2.2.2.2;omega)
            clear hG hG2 hBV A5
            go_wp2_with (first
              | (refine wpList_load_row rfl 35 (.tmp 8) rfl b rfl 35 (UARR .u8 32 Y) (0,0) _ hx3 Tryz.underlying35 rfl (z03 _) ?_)
              | fail)
            go_roundg r
            case measure=>exact Nat.lt_succ_self _
            case rel=>exact ⟨j+1,V.heap.size,C0',by first | rfl | exact congrArg (Value.int IntKind.u64) en,rfl,A4.out.2.2.2.2.2.2.1,A7.out⟩
      · have hev:decide (n / 2 ^ j % 2=1)=false:=decide_eq_false hodd
        rw [hev] at cr
        have hbx:B≤wr.heap.size:=Nat.le_trans A1.out.2.2.2.2.2.2.1 A.out.2.step.size
        have FIN:Aside (∀ W',Below wr.heap.size wr W'→z39 w B g d log n C f x W'):=fun W' hb=>(A.out.2.keep hbx hb).done (by omega) A1.out.2.2.2.1 A1.out.2.1 A1.out.2.2.1 A1.out.2.2.2.2.2.2.2
        clear hev hodd hN hpl hones A hbx
        go_wp2_with fail
        refine (cr _).mono ?_
        rintro e W9 ⟨rfl,hb9⟩
        have hfin:=FIN.out _ hb9
        clear cr hb9 FIN
        go_wp2_with fail
        go_ret
        exact ⟨rfl,hfin⟩
end Go.Proofs.YtjkjlblongeljaaGreatDoor.HX

namespace Go.Proofs.YtjkjlblongeljaaGreatDoor.HX
open Go.RowKit
set_option maxRecDepth 100000
end Go.Proofs.YtjkjlblongeljaaGreatDoor.HX

namespace Go.Proofs.YtjkjlblongeljaaGreatDoor.HX
open Go.RowKit
set_option maxRecDepth 100000
def HB (x:Nat):Nat→Nat:=fun i=>if i=0 then x else 0
structure AW (w wx:World) (B g:Nat) (log n:Nat) (C:z05) (f:Nat→Nat→Nat) (d:Int) (b3 b4 b5:Nat) (x y z:Nat→Nat):Prop where
  tree:FOREST wx B g d log n C f
  h3:Has wx b3 (UARR .u8 32 x) 35
  h4:Has wx b4 (UARR .u8 32 y) 35
  h5:Has wx b5 (UARR .u8 32 z) 35
  off:¬ FOOT wx g C b3∧¬ FOOT wx g C b4∧¬ FOOT wx g C b5
  below:Below B w wx
theorem FOREST.ne {w:World} {B g:Nat} {d:Int} {log n b:Nat} {C:z05} {f:Nat→Nat→Nat} (h:FOREST w B g d log n C f) {c:Array Value} (hb:Has w b c 35):b≠g:=fun e=>by
  obtain ⟨cs,t,fr,k1,_,_,k4⟩:=h.store.kind
  unfold Has at hb
  rw [e,k1] at hb
  cases Option.some.inj hb
  exact k4 rfl
theorem AW.next {w wx w':World} {B g:Nat} {log n:Nat} {C:z05} {f:Nat→Nat→Nat} {d:Int} {b3 b4 b5:Nat} {x y z u:Nat→Nat} (h:AW w wx B g log n C f d b3 b4 b5 x y z) (hA:z39 wx B g d log n C f u w'):∃ C',AW w w' B g log (n+1) C' (z0A f n u) d b3 b4 b5 x y z:=by
  obtain ⟨C',a1,a2,a3⟩:=hA
  have key:∀ {b:Nat} {c:Array Value},Has wx b c 35→¬ FOOT wx g C b→Has w' b c 35∧¬ FOOT w' g C' b:=fun {b c} hb hf=>by
    refine ⟨(a2.same b hb.lt (h.tree.ne hb) hf).trans hb,fun hf'=>?_⟩
    rcases a2.foot b hf' with h1 | h1
    · exact hf h1
    · have:=hb.lt
      omega
  exact ⟨C',a1,(key h.h3 h.off.1).1,(key h.h4 h.off.2.1).1,(key h.h5 h.off.2.2).1,⟨(key h.h3 h.off.1).2,(key h.h4 h.off.2.1).2,(key h.h5 h.off.2.2).2⟩,h.below.trans a3⟩
theorem AW.keep {w wx w':World} {B g:Nat} {log n:Nat} {C:z05} {f:Nat→Nat→Nat} {d:Int} {b3 b4 b5:Nat} {x y z:Nat→Nat} (h:AW w wx B g log n C f d b3 b4 b5 x y z) (hB:B≤wx.heap.size) (hb:Below wx.heap.size wx w'):AW w w' B g log n C f d b3 b4 b5 x y z:=
  ⟨h.tree.below hb,h.h3.keep hb,h.h4.keep hb,h.h5.keep hb,⟨fun hf=>h.off.1 (h.tree.store.foot_below hb hf),fun hf=>h.off.2.1 (h.tree.store.foot_below hb hf),fun hf=>h.off.2.2 (h.tree.store.foot_below hb hf)⟩,h.below.trans (hb.mono hB)⟩
end Go.Proofs.YtjkjlblongeljaaGreatDoor.HX

namespace Go.Proofs.YtjkjlblongeljaaGreatDoor.HX
open Go.RowKit
set_option maxRecDepth 100000
theorem FOREST.congr {w:World} {B g:Nat} {d:Int} {log n:Nat} {C:z05} {f f':Nat→Nat→Nat} (h:FOREST w B g d log n C f) (he:∀ k,k<n→f k=f' k):FOREST w B g d log n C f':=
  ⟨h.store,h.width,h.size,h.free,fun h1 k hk=>by rw [h.node h1 k hk,z1F he h1 k hk],fun k hk i=>by rw [← he k hk];exact h.byte k hk i,h.few,h.base⟩
def RTS (d:Int) (hs:Nat→Nat→Nat) (k:Nat):List (Nat→Nat):=(List.range k).map (z16 d hs)
theorem zbd (d:Int) (hs:Nat→Nat→Nat) (k:Nat):(RTS d hs k).length=k:=by simp [RTS]
theorem zfr (d:Int) (hs:Nat→Nat→Nat) {k i:Nat} (h:i<k):(RTS d hs k).getD i (fun _=>0)=z16 d hs i:=by
  rw [List.getD_eq_getElem?_getD,RTS,List.getElem?_map,List.getElem?_range h]
  rfl
structure ROOTS (w wx:World) (B g:Nat) (d:Int) (i k:Nat) (C:z05) (hs:Nat→Nat→Nat) (v:Value):Prop where
  tree:FOREST wx B g d 0 i C hs
  own:wx.ownsRow B 35 32 v k (HL (RTS d hs k))
  off:∀ b,v.ownBlock=some b→¬ FOOT wx g C b∧b≠g
  below:Below B w wx
theorem ROOTS.keep {w wx w':World} {B g:Nat} {d:Int} {i k:Nat} {C:z05} {hs:Nat→Nat→Nat} {v:Value} (h:ROOTS w wx B g d i k C hs v) (hB:B≤wx.heap.size) (hb:Below wx.heap.size wx w'):ROOTS w w' B g d i k C hs v:=
  ⟨h.tree.below hb,z35 h.own hb,fun b e=>⟨fun hf=>(h.off b e).1 (h.tree.store.foot_below hb hf),(h.off b e).2⟩,h.below.trans (hb.mono hB)⟩
theorem ROOTS.appended {w wx w':World} {B g:Nat} {d:Int} {i k:Nat} {C:z05} {hs:Nat→Nat→Nat} {v:Value} (h:ROOTS w wx B g d i k C hs v) (hA:z39 wx B g d 0 i C hs (hs i) w'):∃ C',ROOTS w w' B g d (i+1) k C' hs v:=by
  obtain ⟨C',a1,a2,a3⟩:=hA
  refine ⟨C',a1.congr fun k hk=>?_,?_,fun b e=>⟨fun hf=>?_,(h.off b e).2⟩,h.below.trans a3⟩
  · unfold z0A
    split
    · rename_i e;rw [e]
    · rfl
  · refine ⟨h.own.1,h.own.2.imp id ?_⟩
    rintro ⟨g',c,cur,rfl,b,r,rest⟩
    exact ⟨g',c,cur,rfl,b,(a2.same g' (Array.getElem?_eq_some_iff.1 r).1 (h.off g' rfl).2 (h.off g' rfl).1).trans r,rest⟩
  · rcases a2.foot b hf with h1 | h1
    · exact (h.off b e).1 h1
    · have:=(h.own.lt b e).2
      omega
theorem ROOTS.at {w wx:World} {B g:Nat} {d:Int} {i k j gl cl:Nat} {C:z05} {hs:Nat→Nat→Nat} (h:ROOTS w wx B g d i k C hs (.slice (some ⟨gl,0,none⟩) k cl)) (hj:j<k):wx.rangeAt gl (j*32) (z02 .u8 32 (z16 d hs j))∧gl<wx.heap.size:=by
  obtain ⟨a,c,e,hH⟩:=z5U h.own (zbd d hs k)
  cases e
  obtain ⟨b,o,e,hl,hr⟩:=hH (by omega)
  cases e
  have h1:=hr j hj
  dsimp only at h1
  rw [zfr d hs hj,Nat.zero_add] at h1
  exact ⟨h1,hl⟩
end Go.Proofs.YtjkjlblongeljaaGreatDoor.HX

namespace Go.Proofs.YtjkjlblongeljaaGreatDoor
set_option maxRecDepth 100000
theorem z5V:∀ (L:List Nat) (k:Nat),(∀ x∈L,x<2 ^ 64)→∀ x∈DIFS k L,0≤x∧x≤255
  | [],_,_,x,h=>by cases h
  | y :: L,k,hL,x,h=>by
    rw [DIFS] at h
    rcases List.mem_append.1 h with h | h
    · exact z1v (by have:=hL y (List.mem_cons_self ..);omega) x h
    · exact z5V L (y+1) (fun z hz=>hL z (List.mem_cons_of_mem _ hz)) x h
theorem zbe {L:List Nat} {N:Nat} {l:List Int} (hN:N<2 ^ 64) (hm:L.length<2 ^ 64) (hL:∀ x∈L,x<2 ^ 64) (hl:∀ x∈l,0≤x∧x≤255):∀ x∈MWRT L N l,0≤x∧x≤255:=fun x h=>by
  unfold MWRT at h
  rcases List.mem_cons.1 h with h | h
  · subst h;decide
  · rcases List.mem_append.1 h with h | h
    · rcases List.mem_append.1 h with h | h
      · rcases List.mem_append.1 h with h | h
        · exact z1v hN x h
        · exact z1v hm x h
      · exact z5V L 0 hL x h
    · exact hl x h
theorem z9e {L:List Nat} {N:Nat} {l:List Int}:(MWRT L N l).length≤21+10*L.length+l.length:=by
  unfold MWRT
  have h1:=z0n N
  have h2:=z0n L.length
  have h3:=z2n N
  have h4:=z2n L.length
  have h5:=z4W L 0
  simp only [List.length_cons,List.length_append]
  omega
end Go.Proofs.YtjkjlblongeljaaGreatDoor
