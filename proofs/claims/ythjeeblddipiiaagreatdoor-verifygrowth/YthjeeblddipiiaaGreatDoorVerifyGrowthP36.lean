/- Texts of VerifyGrowth, one behind the other: MmrAppend, MmrFoldRegion, MmrBag. -/
import Derived.Test.YthjeeblddipiiaaGreatDoorVerifyGrowthP1
import Derived.Test.YthjeeblddipiiaaGreatDoorVerifyGrowthP31
import Derived.Test.YthjeeblddipiiaaGreatDoorVerifyGrowthP35
namespace Go.Proofs.YthjeeblddipiiaaGreatDoor.HX
open Go.RowKit
set_option maxRecDepth 100000
def z3e (w:World) (B g:Nat) (d:Int) (log n:Nat) (C:z04) (f:Nat→Nat→Nat) (x:Nat→Nat) (w':World):Prop:=∃ C',FOREST w' B g d log (n+1) C' (z0E f n x)∧TSTEP w w' g C C'∧Below B w w'
theorem z3f {n:Nat} (h:n<2 ^ 40):IntKind.u64.wrap ((n:Int)+1)=((n+1:Nat):Int):=by
  simp [IntKind.wrap,IntKind.signed,IntKind.bits]
  omega
theorem ONES.small {n j:Nat} (h:ONES n j) (hn:n<2 ^ 20):j≤20:=by
  rcases Nat.lt_or_ge 20 j with h1 | h1
  · have h2:=h.span
    have h3:2 ^ 21≤2 ^ j:=Nat.pow_le_pow_right (by decide) h1
    have h4:1*2 ^ j≤(n / 2 ^ j+1)*2 ^ j:=Nat.mul_le_mul_right _ (Nat.le_add_left 1 _)
    generalize n / 2 ^ j=q at *
    omega
  · exact h1
theorem ONES.node {n j:Nat} (h:ONES n j) (hn:n<2 ^ 20):Node j (n / 2 ^ j):=by
  have hj:=h.small hn
  refine ⟨by omega,Nat.lt_of_le_of_lt (Nat.div_le_self _ _) (Nat.lt_of_lt_of_le hn (Nat.pow_le_pow_right (by decide) (by omega)))⟩
theorem z7x {w W1 W:World} {B g:Nat} {d:Int} {log n b:Nat} {C:z04} {f:Nat→Nat→Nat} {x:Nat→Nat} (hnode:∀ h k,(k+1)*2 ^ h≤n→AT C log (PLC h k)=some (VAL d f h k)) (hw5:W1.cell? ⟨g,5,none⟩=some (.int .i64 d)) (hw6:W1.cell? ⟨g,6,none⟩=some (.int .u64 ((n+1:Nat):Int)))
    (hheld:Has W1 b (UARR .u8 32 x) 32) (hoff:¬ FOOT W1 g C b) (hbg:b≠g) (hstep:TSTEP w W1 g C C) (hbel:Below B w W1) (hbase:w.heap.size≤b)
    (hP:z3K W1 B g log (z05 n) (z05 n) (z05 n) C x W):∃ C',GROWING w W B g d log n 0 b C C' (z0E f n x):=by
  obtain ⟨C',s1,s2,s3,s4⟩:=hP
  have hbl:=hheld.lt
  have hx:VAL d (z0E f n x) 0 (n / 2 ^ 0)=x:=by rw [Nat.pow_zero,Nat.div_one];exact z8v f n x
  refine ⟨C',⟨s1,(s3.pins 5 (by decide)).trans hw5,(s3.pins 6 (by decide)).trans hw6,s1.live 6 (by decide),fun h k hk=>?_,fun i hi=>?_,fun i hi=>by omega,?_,fun hf=>?_,hstep.trans s3.tree,hbel.trans s4,hbase⟩⟩
  · have h1:=z3o hk
    rw [s2,if_neg (by omega),hnode h k hk,z1N (fun k hk=>(zcY f n x hk).symm) h k hk]
  · obtain rfl:i=0:=by omega
    rw [s2,if_pos (Nat.add_zero _),hx]
  · rw [hx]
    exact (s3.same b hbl hbg hoff).trans hheld
  · rcases s3.foot b hf with h1 | h1
    · exact hoff h1
    · omega
theorem GROWING.done {w wx:World} {B g:Nat} {d:Int} {log n j b:Nat} {C Cj:z04} {f:Nat→Nat→Nat} {x:Nat→Nat} (h:GROWING w wx B g d log n j b C Cj (z0E f n x)) (he:n / 2 ^ j % 2=0) (hn:n<2 ^ 20) (hbyte:∀ k,k<n→∀ i,f k i<256) (h8:∀ i,x i<256) (hBg:B≤g):z3e w B g d log n C f x wx:=by
  have hnd:=h.ones.nodes he
  have e1:z05 (n+1)=z05 n+1+j:=by omega
  refine ⟨Cj,⟨by rw [e1];exact h.store,h.width,h.size,h.free,fun h1 k hk=>?_,fun k hk i=>?_,by omega,hBg⟩,h.step,h.below⟩
  · by_cases e:(k+1)*2 ^ h1=n+1
    · obtain ⟨rfl,ho⟩:=ONES.of_span e
      have hle:h1≤j:=by
        rcases Nat.lt_or_ge j h1 with hlt | hge
        · have:=ho j hlt
          omega
        · exact hge
      rw [ho.place]
      exact h.new h1 hle
    · exact h.old h1 k (by omega)
  · unfold z0E
    split
    · exact h8 i
    · exact hbyte k (by omega) i
set_option maxHeartbeats 4000000 in
theorem zdg {w:World} {B g:Nat} {d:Int} {log n:Nat} {C:z04} {f:Nat→Nat→Nat} (hF:FOREST w B g d log n C f) (x:Nat→Nat) (h8:∀ i,x i<256) (hn:n<2 ^ 20) (hT:Tabled w) (hGB:2<B) (hB:B≤w.heap.size):
    Calls Tryz.prog 23 #[.pointer (some ⟨g,0,none⟩),.agg (UARR .u8 32 x)] w fun e w'=>e=.returned (.int .u64 (n:Int))∧z3e w B g d log n C f x w':=by
  obtain ⟨w0,hw0⟩:∃ w0,w.alloc (.cells (UARR .u8 32 x) 32)=w0:=⟨_,rfl⟩
  have hb0:Below w.heap.size w w0:=by rw [← hw0];exact (Below.refl _ _).alloc (Nat.le_refl _) _
  have h30:Has w0 w.heap.size (UARR .u8 32 x) 32:=by rw [← hw0];exact Has.new w _ _
  have hF0:=hF.below hb0
  have c6:=hF0.size
  have f6:=hF0.free
  have cl:=Go.Proofs.YthjeeblddipiiaaGreatDoor.leaf_ok n (by omega)
  have eu:=z3f (n:=n) (by omega)
  go_enter Tryz.func23,Tryz.ntmps23
  go_wp2_with fail
  refine (cl _).mono ?_
  rintro e w1 ⟨rfl,rfl⟩
  clear cl
  go_upto_region 6 with fail
  have hgl:=hF.store.lt
  obtain ⟨hS1,hst1⟩:=hF0.store.side 6 (by decide) (.int .u64 ((n:Int)+1))
  have hbg:w.heap.size≠g:=by omega
  have h31:Has (w0.setCell ⟨g,6,none⟩ (.int .u64 ((n:Int)+1))) w.heap.size (UARR .u8 32 x) 32:=h30.other hbg _
  have hw5:(w0.setCell ⟨g,6,none⟩ (.int .u64 ((n:Int)+1))).cell? ⟨g,5,none⟩=some (.int .i64 d):=(z1Q (by decide) _).trans hF0.width
  have hw6:(w0.setCell ⟨g,6,none⟩ (.int .u64 ((n:Int)+1))).cell? ⟨g,6,none⟩=some (.int .u64 ((n+1:Nat):Int)):=World.cell?_setCell_same _ _ _ hF0.size
  have hbel1:Below B w (w0.setCell ⟨g,6,none⟩ (.int .u64 ((n:Int)+1))):=(hb0.mono hB).setCell (p:=⟨g,6,none⟩) hF.base _
  have hst:TSTEP w (w0.setCell ⟨g,6,none⟩ (.int .u64 ((n:Int)+1))) g C C:=(STEP.below hF.store hb0).tree.trans hst1
  have hoff:¬ FOOT (w0.setCell ⟨g,6,none⟩ (.int .u64 ((n:Int)+1))) g C w.heap.size:=fun hf=>by
    rcases hst1.foot _ hf with h1 | h1
    · exact Nat.lt_irrefl _ (hF.store.foot_lt (hF.store.foot_below hb0 h1))
    · have:=h30.lt
      omega
  have hb3:w.heap.size≤w.heap.size:=Nat.le_refl _
  have A1:Aside ((∀ h k,(k+1)*2 ^ h≤n→AT C log (PLC h k)=some (VAL d f h k))∧(∀ k,k<n→∀ i,f k i<256)∧(∀ i,x i<256)∧n<2 ^ 20∧Tabled w∧2<B∧B≤w.heap.size∧B≤g):=⟨hF.node,hF.byte,h8,hn,hT,hGB,hB,hF.base⟩
  generalize w0.setCell ⟨g,6,none⟩ (.int .u64 ((n:Int)+1))=W1 at *
  obtain ⟨b3,hb3e⟩:∃ b3,w.heap.size=b3:=⟨_,rfl⟩
  rw [hb3e] at h31 hoff hbg hb3 ⊢
  have A2:Aside (STORE W1 B g log (z05 n) (z05 n) (z05 n) C∧Has W1 b3 (UARR .u8 32 x) 32∧W1.cell? ⟨g,5,none⟩=some (.int .i64 d)∧W1.cell? ⟨g,6,none⟩=some (.int .u64 ((n+1:Nat):Int))∧Below B w W1∧TSTEP w W1 g C C∧¬ FOOT W1 g C b3∧b3≠g∧w.heap.size≤b3):=⟨hS1,h31,hw5,hw6,hbel1,hst,hoff,hbg,by omega⟩
  clear hF hF0 h30 hb0 c6 f6 hS1 hst1 hbg h31 hw5 hw6 hbel1 hst hoff hb3 hgl h8 hn hT hGB hB hw0 hb3e
  refine z8J W1 g b3 (z05 n) x (fun W=>W=W1.drew) (fun W=>z3K W1.drew B g log (z05 n) (z05 n) (z05 n) C x W) rfl (fun W e=>by rw [e];exact (show Has W1.drew b3 _ _ from A2.out.2.1).whole) (fun W hP=>?_) (fun W e=>?_) (fun _ _ _ _ _ h=>h) ?_
  · obtain ⟨C',s1,s2,s3,s4⟩:=hP
    exact (show Has W b3 (UARR .u8 32 x) 32 from (s3.same b3 A2.out.2.1.lt A2.out.2.2.2.2.2.2.2.1 A2.out.2.2.2.2.2.2.1).trans A2.out.2.1).whole
  · subst e
    have hlt:z05 n<2 ^ 22:=Nat.lt_trans (z3s (h:=20) A1.out.2.2.2.1) (by decide)
    exact zaf (A2.out.1.below (Below.refl _ _).drew) x A1.out.2.2.1 (by omega) (by omega) A1.out.2.2.2.2.2.2.2 (by omega)
  · intro W hP
    have hG:∃ C',GROWING w W B g d log n 0 b3 C C' (z0E f n x):=z7x (W1:=W1.drew) A1.out.1 A2.out.2.2.1 A2.out.2.2.2.1 A2.out.2.1 A2.out.2.2.2.2.2.2.1 A2.out.2.2.2.2.2.2.2.1 (A2.out.2.2.2.2.2.1.trans (STEP.below A2.out.1 (Below.refl _ _).drew).tree) A2.out.2.2.2.2.1.drew A2.out.2.2.2.2.2.2.2.2 hP
    clear hP A2
    obtain ⟨C0,hG⟩:=hG
    have hBW:B≤W.heap.size:=Nat.le_trans A1.out.2.2.2.2.2.2.1 hG.step.size
    have hG2:=hG.moved hBW
    have hv:VAL d (z0E f n x) 0 (n / 2 ^ 0)=x:=by rw [Nat.pow_zero,Nat.div_one];exact z8v f n x
    rw [hv] at hG2
    have hx3:=hG.held
    rw [hv] at hx3
    have A3:Aside (GROWING w (W.alloc (.cells (UARR .u8 32 x) 32)) B g d log n 0 W.heap.size C C0 (z0E f n x)):=hG2
    have hst:=run_storeCells_new (P:=Tryz.prog) W 32 (UARR .u8 32 fun _=>0) (UARR .u8 32 x) (z03 _) (by rw [z02,z02]) (z0f _ _ _)
    have hsu:=z02 .u8 32 x
    have hz:=z18
    clear hG hG2 hv hBW
    go_wp2_with (first
      | (refine wpList_load_row rfl 32 (.tmp 3) rfl b3 rfl 32 (UARR .u8 32 x) (0,0) _ hx3 Tryz.underlying32 rfl (z03 _) ?_)
      | fail)
    clear hst hsu hx3
    obtain ⟨W2,hW2⟩:∃ W2,W.alloc (.cells (UARR .u8 32 x) 32)=W2:=⟨_,rfl⟩
    rw [hW2] at A3 ⊢
    obtain ⟨b8,hb8⟩:∃ b8,W.heap.size=b8:=⟨_,rfl⟩
    rw [hb8] at A3 ⊢
    clear hW2 hb8
    go_loopg [6,8] n (fun r s6 s8 wx=>∃ (j b:Nat) (Cj:z04),s6=.int .u64 ((z05 n+j:Nat):Int)∧s8=.pointer (some ⟨b,0,none⟩)∧Aside (j+r=n∧GROWING w wx B g d log n j b C Cj (z0E f n x)))
    case atStart=>exact ⟨0,b8,C0,rfl,rfl,by omega,A3.out⟩
    case round=>
      obtain ⟨j,b,Cj,rfl,rfl,A⟩:=hrel
      clear A3
      have hones:=A.out.2.ones
      have hN:=hones.node A1.out.2.2.2.1
      have hpl:=hones.place
      have cr:=Go.Proofs.YthjeeblddipiiaaGreatDoor.right_ok j (n / 2 ^ j) hN
      rw [hpl] at cr
      by_cases hodd:n / 2 ^ j % 2=1
      · have hev:decide (n / 2 ^ j % 2=1)=true:=decide_eq_true hodd
        rw [hev] at cr
        have hbx:B≤wr.heap.size:=Nat.le_trans A1.out.2.2.2.2.2.2.1 A.out.2.step.size
        have hnx:=hones.next hodd
        obtain ⟨r,rfl⟩:∃ r,gk=r+1:=⟨gk - 1,by have:=hnx.lt;have:=A.out.1;omega⟩
        have A4:Aside (GROWING w wr B g d log n j b C Cj (z0E f n x)∧B≤wr.heap.size∧ONES n (j+1)∧Node j (n / 2 ^ j)∧PLC j (n / 2 ^ j)=z05 n+j∧n / 2 ^ j=2*(n / 2 ^ (j+1))+1∧j+1+r=n∧j≤20):=⟨A.out.2,hbx,hnx,hN,hpl,by rw [z0v];omega,by have:=A.out.1;omega,hones.small A1.out.2.2.2.1⟩
        clear hev hodd hN hpl hones A hbx hnx
        go_wp2_with fail
        refine (cr _).mono ?_
        rintro e wa ⟨rfl,hba⟩
        clear cr
        have hGa:=A4.out.1.keep A4.out.2.1 hba
        have hBa:B≤wa.heap.size:=Nat.le_trans A4.out.2.1 hba.size
        clear hba
        obtain ⟨L,hL⟩:∃ L,VAL d (z0E f n x) j (2*(n / 2 ^ (j+1)))=L:=⟨_,rfl⟩
        obtain ⟨X,hX⟩:∃ X,VAL d (z0E f n x) j (n / 2 ^ j)=X:=⟨_,rfl⟩
        obtain ⟨Y,hY⟩:∃ Y,VAL d (z0E f n x) (j+1) (n / 2 ^ (j+1))=Y:=⟨_,rfl⟩
        have hYN:Y=z0n d (1 :: ((List.range 32).map L ++ (List.range 32).map X)):=by
          rw [← hY,VAL,hL,← A4.out.2.2.2.2.2.1,hX]
          rfl
        have hspan:=(ONES.span (n:=n) (j:=j) fun i hi=>A4.out.2.2.1 i (by omega))
        have hleft:(2*(n / 2 ^ (j+1))+1)*2 ^ j≤n:=by
          rw [← A4.out.2.2.2.2.2.1]
          have h1:(n / 2 ^ j+1)*2 ^ j=n / 2 ^ j*2 ^ j+2 ^ j:=by rw [Nat.add_mul,Nat.one_mul]
          have h2:0<2 ^ j:=Nat.two_pow_pos j
          omega
        have hbytes:∀ k,k<n+1→∀ i,z0E f n x k i<256:=fun k hk i=>by
          unfold z0E
          split
          · exact A1.out.2.2.1 i
          · exact A1.out.2.1 k (by omega) i
        have hL8:∀ i,L i<256:=fun i=>by rw [← hL];exact z2k hbytes _ _ (by omega) i
        have hX8:∀ i,X i<256:=fun i=>by rw [← hX];exact z2k hbytes _ _ (by omega) i
        have hY8:∀ i,Y i<256:=fun i=>by rw [hYN];exact z1L d _ _ i
        have hsib:SIB (n / 2 ^ j)=2*(n / 2 ^ (j+1)):=by rw [A4.out.2.2.2.2.2.1];unfold SIB;rw [if_pos (by omega)];omega
        have hatL:AT Cj log (PLC j (SIB (n / 2 ^ j)))=some L:=by rw [hsib,hGa.old j _ hleft,hL]
        have hltL:PLC j (SIB (n / 2 ^ j))<z05 n+1+j:=by rw [hsib];have:=z3o hleft;omega
        have hheld:Has wa b (UARR .u8 32 X) 32:=by rw [← hX];exact hGa.held
        have hTa:Tabled wa:=⟨fun i hi=>(hGa.below.cell (by show 2<B;have:=A1.out.2.2.2.2.2.1;omega)).trans (A1.out.2.2.2.2.1.1 i hi),fun i hi=>(hGa.below.cell (by show 1<B;have:=A1.out.2.2.2.2.2.1;omega)).trans (A1.out.2.2.2.2.1.2.1 i hi),by have:=A1.out.2.2.2.2.2.1;omega⟩
        have A5:Aside (GROWING w wa B g d log n j b C Cj (z0E f n x)∧B≤wa.heap.size∧Has wa b (UARR .u8 32 X) 32∧Tabled wa∧(∀ i,L i<256)∧(∀ i,X i<256)∧(∀ i,Y i<256)∧Y=z0n d (1 :: ((List.range 32).map L ++ (List.range 32).map X))∧AT Cj log (PLC j (SIB (n / 2 ^ j)))=some L∧PLC j (SIB (n / 2 ^ j))<z05 n+1+j∧VAL d (z0E f n x) (j+1) (n / 2 ^ (j+1))=Y):=⟨hGa,hBa,hheld,hTa,hL8,hX8,hY8,hYN,hatL,hltL,hY⟩
        clear hGa hBa hheld hTa hL8 hX8 hY8 hYN hatL hltL hY hsib hbytes hleft hspan hX hL
        go_upto_region 10 with fail
        refine z9v wa g b (z05 n+j) d L X Y (fun V=>Below wa.heap.size wa V) (Below.refl _ _).drew (fun V hV=>?_) (fun V hV=>?_) (fun V hV=>?_) (fun V hV=>?_) (fun _ _ _ _ _ h=>h) ?_
        · have h1:=A5.out.2.2.1.keep hV
          exact ⟨(A5.out.1.keep A5.out.2.1 hV).width,h1.whole,h1⟩
        · exact ((A5.out.1.keep A5.out.2.1 hV).off_row A1.out.2.2.2.2.2.2.1 Y).2.1 5 |>.trans (A5.out.1.keep A5.out.2.1 hV).width
        · have h1:=zfT (A5.out.1.keep A5.out.2.1 hV).store j (n / 2 ^ j) A4.out.2.2.2.1 (by have:=A4.out.2.2.2.2.2.2.2;omega) A5.out.2.2.2.2.2.2.2.2.2.1 L A5.out.2.2.2.2.2.2.2.2.1
          rw [A4.out.2.2.2.2.1] at h1
          refine h1.mono ?_
          rintro e V' ⟨rfl,hb⟩
          exact ⟨rfl,hV.trans (hb.mono hV.size)⟩
        · refine (z9Z d L X A5.out.2.2.2.2.1 A5.out.2.2.2.2.2.1 V (A5.out.2.2.2.1.below hV)).mono ?_
          rintro e V' ⟨rfl,hb⟩
          exact ⟨by rw [A5.out.2.2.2.2.2.2.2.1],hV.trans (hb.mono hV.size)⟩
        · intro W3 hW3
          obtain ⟨w0',hw0',hW3⟩:=hW3
          have hGw:=A5.out.1.keep A5.out.2.1 hw0'
          have hrow:=hGw.off_row A1.out.2.2.2.2.2.2.1 Y
          rw [← hW3] at hrow
          have A6:Aside (STORE W3 B g log (z05 n+1+j) (z05 n+1+j) (z05 n+1+j) Cj∧W3.cell? ⟨g,5,none⟩=some (.int .i64 d)∧W3.cell? ⟨g,6,none⟩=some (.int .u64 ((n+1:Nat):Int))∧Has W3 b (UARR .u8 32 Y) 32∧¬ FOOT W3 g Cj b∧TSTEP w W3 g C Cj∧Below B w W3∧b≠g∧w.heap.size≤b):=⟨hrow.1,(hrow.2.1 5).trans hGw.width,(hrow.2.1 6).trans hGw.size,hrow.2.2.2.1,hrow.2.2.2.2.1,hrow.2.2.2.2.2.1,hrow.2.2.2.2.2.2,hGw.lt.1,hGw.base⟩
          clear hW3 hGw hrow hw0'
          go_upto_region 11 with fail
          refine z9u W3 g b (z05 n+1+j) Y (fun V=>V=W3.drew) (fun V=>z3K W3.drew B g log (z05 n+1+j) (z05 n+1+j) (z05 n+1+j) Cj Y V) rfl (fun V e=>by rw [e];exact (show Has W3.drew b _ _ from A6.out.2.2.2.1).whole) (fun V hP=>?_) (fun V e=>?_) (fun _ _ _ _ _ h=>h) ?_
          · obtain ⟨C',s1,s2,s3,s4⟩:=hP
            exact (show Has V b (UARR .u8 32 Y) 32 from (s3.same b A6.out.2.2.2.1.lt A6.out.2.2.2.2.2.2.2.1 A6.out.2.2.2.2.1).trans A6.out.2.2.2.1).whole
          · subst e
            have hlt:z05 n<2 ^ 22:=Nat.lt_trans (z3s (h:=20) A1.out.2.2.2.1) (by decide)
            have h20:=A4.out.2.2.2.2.2.2.2
            exact zaf (A6.out.1.below (Below.refl _ _).drew) Y A5.out.2.2.2.2.2.2.1 (by omega) (by omega) A1.out.2.2.2.2.2.2.2 (by omega)
          · intro V hP
            have hG:∃ C',GROWING w V B g d log n (j+1) b C C' (z0E f n x):=z6E (wx:=W3.drew) A6.out.2.1 A6.out.2.2.1 A5.out.1.old A5.out.1.new A4.out.2.2.1 A6.out.2.2.2.1 A5.out.2.2.2.2.2.2.2.2.2.2.symm A6.out.2.2.2.2.1 A6.out.2.2.2.2.2.2.2.1 (A6.out.2.2.2.2.2.1.trans (STEP.below A6.out.1 (Below.refl _ _).drew).tree) A6.out.2.2.2.2.2.2.1.drew A6.out.2.2.2.2.2.2.2.2 hP
            clear hP A6
            obtain ⟨C0',hG⟩:=hG
            have hBV:B≤V.heap.size:=Nat.le_trans A1.out.2.2.2.2.2.2.1 hG.step.size
            have hG2:=hG.moved hBV
            rw [A5.out.2.2.2.2.2.2.2.2.2.2] at hG2
            have hx3:=hG.held
            rw [A5.out.2.2.2.2.2.2.2.2.2.2] at hx3
            have A7:Aside (GROWING w (V.alloc (.cells (UARR .u8 32 Y) 32)) B g d log n (j+1) V.heap.size C C0' (z0E f n x)):=hG2
            have hst:=run_storeCells_new (P:=Tryz.prog) V 32 (UARR .u8 32 fun _=>0) (UARR .u8 32 Y) (z03 _) (by rw [z02,z02]) (z0f _ _ _)
            have hsu:=z02 .u8 32 Y
            have en:=z3f (n:=z05 n+j) (by have hlt:z05 n<2 ^ 22:=Nat.lt_trans (z3s (h:=20) A1.out.2.2.2.1) (by decide);have h20:=A4.out.2.2.2.2.2.2.2;omega)
            clear hG hG2 hBV A5
            go_wp2_with (first
              | (refine wpList_load_row rfl 32 (.tmp 8) rfl b rfl 32 (UARR .u8 32 Y) (0,0) _ hx3 Tryz.underlying32 rfl (z03 _) ?_)
              | fail)
            go_roundg r
            case measure=>exact Nat.lt_succ_self _
            case rel=>exact ⟨j+1,V.heap.size,C0',by first | rfl | exact congrArg (Value.int IntKind.u64) en,rfl,A4.out.2.2.2.2.2.2.1,A7.out⟩
      · have hev:decide (n / 2 ^ j % 2=1)=false:=decide_eq_false hodd
        rw [hev] at cr
        have hbx:B≤wr.heap.size:=Nat.le_trans A1.out.2.2.2.2.2.2.1 A.out.2.step.size
        have FIN:Aside (∀ W',Below wr.heap.size wr W'→z3e w B g d log n C f x W'):=fun W' hb=>(A.out.2.keep hbx hb).done (by omega) A1.out.2.2.2.1 A1.out.2.1 A1.out.2.2.1 A1.out.2.2.2.2.2.2.2
        clear hev hodd hN hpl hones A hbx
        go_wp2_with fail
        refine (cr _).mono ?_
        rintro e W9 ⟨rfl,hb9⟩
        have hfin:=FIN.out _ hb9
        clear cr hb9 FIN
        go_wp2_with fail
        go_ret
        exact ⟨rfl,hfin⟩
end Go.Proofs.YthjeeblddipiiaaGreatDoor.HX

namespace Go.Proofs.YthjeeblddipiiaaGreatDoor.HX
open Go.RowKit
set_option maxRecDepth 100000
def z1O:Array Oper:=#[⟨some 25,.move (.tmp 0),3,"grow.go:30",#[],none⟩,⟨some 26,.move (.tmp 1),22,"grow.go:30",#[],none⟩,⟨some 27,.move (.tmp 7),3,"grow.go:30",#[],none⟩,⟨some 28,.indexAddr 22 (.tmp 26) (.tmp 27),0,"grow.go:30",#[⟨1,.data⟩,⟨2,.data⟩],none⟩,⟨some 29,.load 32 (.tmp 28),32,"grow.go:30",#[⟨3,.data⟩],none⟩,⟨some 30,.load 32 (.tmp 6),32,"grow.go:30",#[],none⟩,⟨some 31,.call {callee:=.value (.func 38),args:=#[.tmp 25,.tmp 29,.tmp 30],argTypes:=#[3,32,32]},32,"grow.go:30",#[⟨0,.data⟩,⟨4,.data⟩,⟨5,.data⟩],none⟩,⟨none,.store 32 (.tmp 6) (.tmp 31),0,"grow.go:30",#[⟨6,.data⟩,⟨6,.chain⟩,⟨0,.phase⟩,⟨1,.phase⟩,⟨2,.phase⟩,⟨3,.phase⟩,⟨4,.phase⟩,⟨5,.phase⟩,⟨6,.phase⟩],none⟩]
set_option maxHeartbeats 2000000 in
theorem z9w {Q:Exit→Act→World→Prop} {u2 u3 u4 u5 u8 u9 u10 u11 u12 u13 u14 u15 u16 u17 u18 u19 u20 u21 u22 u23 u24 u25 u26 u27 u28 u29 u30 u31 u32:Value} (W:World) (gn o n c b q:Nat) (d:Int) (l x y:Nat→Nat) (hq:(q:Int)<(n:Int)) (I:World→Prop) (h0:I W.drew) (hI:∀ w,I w→w.rangeAt gn (o+q*32) (z01 .u8 32 l)∧Has w b (UARR .u8 32 x) 32) (hRow:∀ w,I w→(w.setRow b (UARR .u8 32 y)).rangeAt gn (o+q*32) (z01 .u8 32 l))
    (c1:∀ w,I w→Calls Tryz.prog 38 #[.int .i64 d,.agg (UARR .u8 32 l),.agg (UARR .u8 32 x)] w fun e w'=>e=.returned (.agg (UARR .u8 32 y))∧I w') (hQ:∀ c (a:Act) (t:Tmp) (v:Value) w,Q (.panic c) (a.put (some t) v) w→Q (.panic c) a w)
    (hfin:∀ (w:World),(∃ w0:World,I w0∧w=w0.setRow b (UARR .u8 32 y))→Q .normal {tmps:=#[.int .i64 d,.slice (some ⟨gn,o,none⟩) n c,u2,u3,u4,u5,.pointer (some ⟨b,0,none⟩),.int .i64 (q:Int),u8,u9,u10,u11,u12,u13,u14,u15,u16,u17,u18,u19,u20,u21,u22,u23,u24,.int .i64 d,.slice (some ⟨gn,o,none⟩) n c,.int .i64 (q:Int),.pointer (some ⟨gn,(o+q*32),none⟩),.agg (UARR .u8 32 l),.agg (UARR .u8 32 x),.agg (UARR .u8 32 y),u32],defers:=[]} w):(Code.region 8 z1O true).wp Tryz.prog Q {tmps:=#[.int .i64 d,.slice (some ⟨gn,o,none⟩) n c,u2,u3,u4,u5,.pointer (some ⟨b,0,none⟩),.int .i64 (q:Int),u8,u9,u10,u11,u12,u13,u14,u15,u16,u17,u18,u19,u20,u21,u22,u23,u24,u25,u26,u27,u28,u29,u30,u31,u32],defers:=[]} W:=by
  have k5_6_7:∀ (w:World),(∃ w0:World,I w0∧w=w0.setRow b (UARR .u8 32 y))→wpAnyH Tryz.prog .any z1O Q (fun w:World=>w.rangeAt gn (o+q*32) (z01 .u8 32 l)) 0 #[true,true,true,true,true,true,true,true] {tmps:=#[.int .i64 d,.slice (some ⟨gn,o,none⟩) n c,u2,u3,u4,u5,.pointer (some ⟨b,0,none⟩),.int .i64 (q:Int),u8,u9,u10,u11,u12,u13,u14,u15,u16,u17,u18,u19,u20,u21,u22,u23,u24,.int .i64 d,.slice (some ⟨gn,o,none⟩) n c,.int .i64 (q:Int),.pointer (some ⟨gn,(o+q*32),none⟩),.agg (UARR .u8 32 l),.agg (UARR .u8 32 x),.agg (UARR .u8 32 y),u32],defers:=[]} w:=fun  w hp=>by
    exact wpAnyH_done (by kernel_rfl) (hfin  w hp) _
  have k5_6:∀ (w:World),(I w)→wpAnyH Tryz.prog .any z1O Q (fun w:World=>w.rangeAt gn (o+q*32) (z01 .u8 32 l)) 1 #[true,true,true,true,true,true,true,false] {tmps:=#[.int .i64 d,.slice (some ⟨gn,o,none⟩) n c,u2,u3,u4,u5,.pointer (some ⟨b,0,none⟩),.int .i64 (q:Int),u8,u9,u10,u11,u12,u13,u14,u15,u16,u17,u18,u19,u20,u21,u22,u23,u24,.int .i64 d,.slice (some ⟨gn,o,none⟩) n c,.int .i64 (q:Int),.pointer (some ⟨gn,(o+q*32),none⟩),.agg (UARR .u8 32 l),.agg (UARR .u8 32 x),.agg (UARR .u8 32 y),u32],defers:=[]} w:=fun  w hp=>by
    refine wpAnyH_ready (rs:=[7]) (by kernel_rfl) (by simp) ?_
    refine AllReadyH.cons (o:=⟨none,.store 32 (.tmp 6) (.tmp 31),0,"grow.go:30",#[⟨6,.data⟩,⟨6,.chain⟩,⟨0,.phase⟩,⟨1,.phase⟩,⟨2,.phase⟩,⟨3,.phase⟩,⟨4,.phase⟩,⟨5,.phase⟩,⟨6,.phase⟩],none⟩) rfl (fun K hK=>?_) ?_
    · exact z0U rfl (z1h (z49 (hI _ hp).2 y)) (have hp:(fun (w:World)=>(∃ w0:World,I w0∧w=w0.setRow b (UARR .u8 32 y)))  _:=⟨w,hp,rfl⟩;hK.out _ _ ((by obtain ⟨w0,h1,h2⟩:=hp; (first | rw [h2] | skip);exact hRow _ h1)) (fun _=>k5_6_7  _ hp))
    exact AllReadyH.nil
  have k5:∀ (w:World),(I w)→wpAnyH Tryz.prog .any z1O Q (fun w:World=>w.rangeAt gn (o+q*32) (z01 .u8 32 l)) 2 #[true,true,true,true,true,true,false,false] {tmps:=#[.int .i64 d,.slice (some ⟨gn,o,none⟩) n c,u2,u3,u4,u5,.pointer (some ⟨b,0,none⟩),.int .i64 (q:Int),u8,u9,u10,u11,u12,u13,u14,u15,u16,u17,u18,u19,u20,u21,u22,u23,u24,.int .i64 d,.slice (some ⟨gn,o,none⟩) n c,.int .i64 (q:Int),.pointer (some ⟨gn,(o+q*32),none⟩),.agg (UARR .u8 32 l),.agg (UARR .u8 32 x),u31,u32],defers:=[]} w:=fun  w hp=>by
    refine wpAnyH_ready (rs:=[6]) (by kernel_rfl) (by simp) ?_
    refine AllReadyH.cons (o:=⟨some 31,.call {callee:=.value (.func 38),args:=#[.tmp 25,.tmp 29,.tmp 30],argTypes:=#[3,32,32]},32,"grow.go:30",#[⟨0,.data⟩,⟨4,.data⟩,⟨5,.data⟩],none⟩) rfl (fun K hK=>?_) ?_
    · rw [if_pos (by rfl)]
      go_simp
      refine (show Calls _ _ _ w (fun e w'=>e=.returned (.agg (UARR .u8 32 y))∧(I w')) from c1 w hp).mono ?_
      rintro e w' ⟨rfl,hp⟩
      exact hK.out _ _ ((hI _ hp).1) (fun _=>k5_6  w' hp)
    exact AllReadyH.nil
  have k:∀ (w:World),(I w)→wpAnyH Tryz.prog .any z1O Q (fun w:World=>w.rangeAt gn (o+q*32) (z01 .u8 32 l)) 3 #[true,true,true,true,true,false,false,false] {tmps:=#[.int .i64 d,.slice (some ⟨gn,o,none⟩) n c,u2,u3,u4,u5,.pointer (some ⟨b,0,none⟩),.int .i64 (q:Int),u8,u9,u10,u11,u12,u13,u14,u15,u16,u17,u18,u19,u20,u21,u22,u23,u24,.int .i64 d,.slice (some ⟨gn,o,none⟩) n c,.int .i64 (q:Int),.pointer (some ⟨gn,(o+q*32),none⟩),.agg (UARR .u8 32 l),u30,u31,u32],defers:=[]} w:=fun  w hp=>by
    refine wpAnyH_ready (rs:=[5]) (by kernel_rfl) (by simp) ?_
    refine AllReadyH.cons (o:=⟨some 30,.load 32 (.tmp 6),32,"grow.go:30",#[],none⟩) rfl (fun K hK=>?_) ?_
    · exact z4z rfl 32 (.tmp 6) rfl b 0 rfl (z01 .u8 32 x) _ (hI _ hp).2.whole Tryz.underlying32 rfl (by rw [z09];exact z0q) (have hp:(fun (w:World)=>(I w))  w:=hp;hK.out _ _ ((hI _ hp).1) (fun _=>k5  _ hp))
    exact AllReadyH.nil
  have hp:=h0
  have hww:(fun w:World=>w.rangeAt gn (o+q*32) (z01 .u8 32 l)) W.drew:=(hI _ hp).1
  have last:=k W.drew hp
  have z:wpAnyH Tryz.prog .any z1O Q (fun w:World=>w.rangeAt gn (o+q*32) (z01 .u8 32 l)) 8 #[false,false,false,false,false,false,false,false] {tmps:=#[.int .i64 d,.slice (some ⟨gn,o,none⟩) n c,u2,u3,u4,u5,.pointer (some ⟨b,0,none⟩),.int .i64 (q:Int),u8,u9,u10,u11,u12,u13,u14,u15,u16,u17,u18,u19,u20,u21,u22,u23,u24,u25,u26,u27,u28,u29,u30,u31,u32],defers:=[]} W.drew:=by
    have t4:wpAnyH Tryz.prog .any z1O Q (fun w:World=>w.rangeAt gn (o+q*32) (z01 .u8 32 l)) 4 #[true,true,true,true,false,false,false,false] {tmps:=#[.int .i64 d,.slice (some ⟨gn,o,none⟩) n c,u2,u3,u4,u5,.pointer (some ⟨b,0,none⟩),.int .i64 (q:Int),u8,u9,u10,u11,u12,u13,u14,u15,u16,u17,u18,u19,u20,u21,u22,u23,u24,.int .i64 d,.slice (some ⟨gn,o,none⟩) n c,.int .i64 (q:Int),.pointer (some ⟨gn,(o+q*32),none⟩),u29,u30,u31,u32],defers:=[]} W.drew:=
      wpAnyH_take (i:=4) (oi:=⟨some 29,.load 32 (.tmp 28),32,"grow.go:30",#[⟨3,.data⟩],none⟩) (v:=.agg (UARR .u8 32 l)) rfl (by kernel_rfl) (by kernel_rfl) (by kernel_rfl) (fun _ _ _ h=>hQ _ _ _ _ _ h) (yieldsIf_load_mid (by rfl) 32 (.tmp 28) rfl gn (o+q*32) rfl (z01 .u8 32 l) _ (fun w h=>h) Tryz.underlying32 rfl (by rw [z09];exact z0q)) hww last
    have t3:wpAnyH Tryz.prog .any z1O Q (fun w:World=>w.rangeAt gn (o+q*32) (z01 .u8 32 l)) 5 #[true,true,true,false,false,false,false,false] {tmps:=#[.int .i64 d,.slice (some ⟨gn,o,none⟩) n c,u2,u3,u4,u5,.pointer (some ⟨b,0,none⟩),.int .i64 (q:Int),u8,u9,u10,u11,u12,u13,u14,u15,u16,u17,u18,u19,u20,u21,u22,u23,u24,.int .i64 d,.slice (some ⟨gn,o,none⟩) n c,.int .i64 (q:Int),u28,u29,u30,u31,u32],defers:=[]} W.drew:=
      wpAnyH_take (i:=3) (oi:=⟨some 28,.indexAddr 22 (.tmp 26) (.tmp 27),0,"grow.go:30",#[⟨1,.data⟩,⟨2,.data⟩],none⟩) (v:=.pointer (some ⟨gn,(o+q*32),none⟩)) rfl (by kernel_rfl) (by kernel_rfl) (by kernel_rfl) (fun _ _ _ h=>hQ _ _ _ _ _ h) (Yields.yieldsIf (Or.inl ⟨by rfl,fun W=>by go_simp⟩)) hww t4
    have t2:wpAnyH Tryz.prog .any z1O Q (fun w:World=>w.rangeAt gn (o+q*32) (z01 .u8 32 l)) 6 #[true,true,false,false,false,false,false,false] {tmps:=#[.int .i64 d,.slice (some ⟨gn,o,none⟩) n c,u2,u3,u4,u5,.pointer (some ⟨b,0,none⟩),.int .i64 (q:Int),u8,u9,u10,u11,u12,u13,u14,u15,u16,u17,u18,u19,u20,u21,u22,u23,u24,.int .i64 d,.slice (some ⟨gn,o,none⟩) n c,u27,u28,u29,u30,u31,u32],defers:=[]} W.drew:=
      wpAnyH_take (i:=2) (oi:=⟨some 27,.move (.tmp 7),3,"grow.go:30",#[],none⟩) (v:=.int .i64 (q:Int)) rfl (by kernel_rfl) (by kernel_rfl) (by kernel_rfl) (fun _ _ _ h=>hQ _ _ _ _ _ h) (Yields.yieldsIf (Or.inl ⟨by rfl,fun W=>by go_simp⟩)) hww t3
    have t1:wpAnyH Tryz.prog .any z1O Q (fun w:World=>w.rangeAt gn (o+q*32) (z01 .u8 32 l)) 7 #[true,false,false,false,false,false,false,false] {tmps:=#[.int .i64 d,.slice (some ⟨gn,o,none⟩) n c,u2,u3,u4,u5,.pointer (some ⟨b,0,none⟩),.int .i64 (q:Int),u8,u9,u10,u11,u12,u13,u14,u15,u16,u17,u18,u19,u20,u21,u22,u23,u24,.int .i64 d,u26,u27,u28,u29,u30,u31,u32],defers:=[]} W.drew:=
      wpAnyH_take (i:=1) (oi:=⟨some 26,.move (.tmp 1),22,"grow.go:30",#[],none⟩) (v:=.slice (some ⟨gn,o,none⟩) n c) rfl (by kernel_rfl) (by kernel_rfl) (by kernel_rfl) (fun _ _ _ h=>hQ _ _ _ _ _ h) (Yields.yieldsIf (Or.inl ⟨by rfl,fun W=>by go_simp⟩)) hww t2
    have t0:wpAnyH Tryz.prog .any z1O Q (fun w:World=>w.rangeAt gn (o+q*32) (z01 .u8 32 l)) 8 #[false,false,false,false,false,false,false,false] {tmps:=#[.int .i64 d,.slice (some ⟨gn,o,none⟩) n c,u2,u3,u4,u5,.pointer (some ⟨b,0,none⟩),.int .i64 (q:Int),u8,u9,u10,u11,u12,u13,u14,u15,u16,u17,u18,u19,u20,u21,u22,u23,u24,u25,u26,u27,u28,u29,u30,u31,u32],defers:=[]} W.drew:=
      wpAnyH_take (i:=0) (oi:=⟨some 25,.move (.tmp 0),3,"grow.go:30",#[],none⟩) (v:=.int .i64 d) rfl (by kernel_rfl) (by kernel_rfl) (by kernel_rfl) (fun _ _ _ h=>hQ _ _ _ _ _ h) (Yields.yieldsIf (Or.inl ⟨by rfl,fun W=>by go_simp⟩)) hww t1
    exact t0
  exact wp_region_held_drew (S:=(fun w:World=>w.rangeAt gn (o+q*32) (z01 .u8 32 l))) (by kernel_rfl) hww (fun _=>z)
end Go.Proofs.YthjeeblddipiiaaGreatDoor.HX

namespace Go.Proofs.YthjeeblddipiiaaGreatDoor.HX
open Go.RowKit
set_option maxRecDepth 100000
def HASHES (w:World) (a:Option Addr) (n:Nat) (hs:Nat→Nat→Nat):Prop:=0<n→∃ b o,a=some ⟨b,o,none⟩∧b<w.heap.size∧∀ i,i<n→w.rangeAt b (o+i*32) (z01 .u8 32 (hs i))
theorem HASHES.below {w w':World} {a:Option Addr} {n:Nat} {hs:Nat→Nat→Nat} (h:HASHES w a n hs) (hb:Below w.heap.size w w'):HASHES w' a n hs:=fun hn=>by
  obtain ⟨b,o,e,hl,hc⟩:=h hn
  exact ⟨b,o,e,Nat.lt_of_lt_of_le hl hb.size,fun i hi=>z1t (hc i hi) hb hl⟩
def z4L (d:Int) (l r:Nat→Nat):Nat→Nat:=z0n d (2 :: ((List.range 32).map l ++ (List.range 32).map r))
def z3r (d:Int) (n:Nat) (r:Nat→Nat):Nat→Nat:=z0n d (3 :: (BE8 n ++ (List.range 32).map r))
theorem zeZ (d:Int) (l r:Nat→Nat) (i:Nat):z4L d l r i<256:=z1L d _ _ i
theorem z8K (d:Int) (n:Nat) (r:Nat→Nat) (i:Nat):z3r d n r i<256:=z1L d _ _ i
def FAF (d:Int) (hs:Nat→Nat→Nat) (n:Nat):Nat→Nat→Nat
  | 0=>hs (n - 1)
  | k+1=>z4L d (hs (n - 2 - k)) (FAF d hs n k)
def FLDF (d:Int) (hs:Nat→Nat→Nat) (n:Nat):Nat→Nat:=if n=0 then fun _=>0 else FAF d hs n (n - 1)
theorem zdh {d:Int} {hs:Nat→Nat→Nat} {n:Nat} (hb:∀ i,i<n→∀ j,hs i j<256) (hn:0<n):∀ k j,FAF d hs n k j<256
  | 0,j=>hb _ (by omega) j
  | k+1,j=>zeZ _ _ _ j
theorem zgd {d:Int} {hs:Nat→Nat→Nat} {n:Nat} (hb:∀ i,i<n→∀ j,hs i j<256) (j:Nat):FLDF d hs n j<256:=by
  unfold FLDF
  split
  · show (0:Nat)<256
    decide
  · exact zdh hb (by omega) _ j
set_option maxHeartbeats 4000000 in
theorem zbG (d:Int) (a:Option Addr) (n c:Nat) (hn:n≤1000) (hs:Nat→Nat→Nat) (w:World) (hH:HASHES w a n hs) (h8:∀ i,i<n→∀ j,hs i j<256) (hX:Tabled w):
    Calls Tryz.prog 36 #[.int .i64 d,.slice a n c] w fun e w'=>e=.returned (.agg (UARR .u8 32 (FLDF d hs n)))∧Below w.heap.size w w':=by
  have hz:=z18
  have hbn:=z3p
  obtain ⟨w0,hw0⟩:∃ w0,w.alloc (.cells (UARR .u8 32 fun _=>0) 32)=w0:=⟨_,rfl⟩
  have hb0:Below w.heap.size w w0:=by rw [← hw0];exact (Below.refl _ _).alloc (Nat.le_refl _) _
  have h40:Has w0 w.heap.size (UARR .u8 32 fun _=>0) 32:=by rw [← hw0];exact Has.new w _ _
  by_cases h0:n=0
  · subst h0
    have e:FLDF d hs 0=fun _=>0:=rfl
    rw [e]
    clear hH hX hn e h8
    have hst2:=z0m h40 (fun _=>0)
    have hsu:=z02 .u8 32 (fun _=>0)
    go_enter Tryz.func36,Tryz.ntmps36
    go_wp2
    refine bodyPost_ret (v:=.agg (UARR .u8 32 fun _=>0)) (z3c rfl _ _ w.heap.size 32 _ (0,0) _ _ rfl (h40.row _) Tryz.underlying32 (z03 _)) rfl ⟨rfl,z0a hb0 (Nat.le_refl _) _⟩
  · obtain ⟨m,hm⟩:∃ m,n=m+1:=⟨n - 1,by omega⟩
    obtain ⟨gn,o,rfl,hgn,hcn⟩:=hH (by omega)
    have hz0:((n:Int) == 0)=false:=beq_eq_false_iff_ne.2 (by omega)
    have e1:wrap64 ((n:Int) - 1)=(m:Int):=by unfold wrap64;omega
    have hml:(m:Int)<(n:Int):=by omega
    have e:FLDF d hs n=FAF d hs n m:=by unfold FLDF;rw [if_neg h0,show n - 1=m by omega]
    rw [e]
    have hat:w0.rangeAt gn (o+m*32) (z01 .u8 32 (FAF d hs n 0)):=by
      have h2:FAF d hs n 0=hs m:=by rw [FAF,show n - 1=m by omega]
      rw [h2]
      exact z1t (hcn m (by omega)) hb0 hgn
    have HA:Aside (n=m+1∧n≤1000∧(∀ i,i<n→w.rangeAt gn (o+i*32) (z01 .u8 32 (hs i)))∧Tabled w∧gn<w.heap.size∧(∀ k j,FAF d hs n k j<256)∧(∀ i,i<n→∀ j,hs i j<256)):=⟨hm,hn,hcn,hX,hgn,zdh h8 (by omega),h8⟩
    clear hm hn hX hgn hcn h0 e hH h8
    generalize hA0:FAF d hs n 0=A0 at *
    have hst:=run_storeCells_new (P:=Tryz.prog) w0 32 (UARR .u8 32 fun _=>0) (UARR .u8 32 A0) (z03 _) (by rw [z02,z02]) (z0f _ _ _)
    have hsu:=z02 .u8 32 A0
    go_enter Tryz.func36,Tryz.ntmps36
    go_wp2_with (first
      | (refine wpList_load_mid rfl 32 (.tmp 17) rfl gn (o+m*32) rfl (z01 .u8 32 A0) _ hat Tryz.underlying32 rfl (by rw [z09];exact z0q) ?_;rw [← z0V]))
    have R1:Aside (Below w.heap.size w (w0.alloc (.cells (UARR .u8 32 A0) 32))∧Has (w0.alloc (.cells (UARR .u8 32 A0) 32)) w.heap.size (UARR .u8 32 fun _=>0) 32∧Has (w0.alloc (.cells (UARR .u8 32 A0) 32)) w0.heap.size (UARR .u8 32 (FAF d hs n 0)) 32∧w.heap.size<w0.heap.size):=⟨hb0.alloc hb0.size _,h40.alloc _,by rw [hA0];exact Has.new _ _ _,h40.lt⟩
    clear hat hst hsu hA0 hw0 hb0 h40
    generalize w0.alloc (.cells (UARR .u8 32 A0) 32)=W1 at *
    generalize w0.heap.size=b6 at *
    clear w0
    have K:Aside (w.heap.size<b6):=R1.out.2.2.2
    have E0:Aside (wrap64 ((m:Int) - 1)=(m:Int) - 1):=by have:=HA.out.1;have:=HA.out.2.1;show wrap64 ((m:Int) - 1)=(m:Int) - 1;unfold wrap64;omega
    go_loopg [7] m (fun q s7 wx=>∃ x:Int,s7=.int .i64 x∧Aside (q≤m∧x=(q:Int) - 1∧Below w.heap.size w wx∧Has wx w.heap.size (UARR .u8 32 fun _=>0) 32∧Has wx b6 (UARR .u8 32 (FAF d hs n (m - q))) 32))
    case atStart=>exact ⟨_,rfl,Nat.le_refl _,E0.out,R1.out.1,R1.out.2.1,by rw [Nat.sub_self];exact R1.out.2.2.1⟩
    case round=>
      obtain ⟨x,rfl,A⟩:=hrel
      clear R1 E0 e1
      cases gk with
      | zero=>
        obtain rfl:x = -1:=by have:=A.out.2.1;omega
        have hH4:=A.out.2.2.2.1
        have hH6:Has wr b6 (UARR .u8 32 (FAF d hs n m)) 32:=A.out.2.2.2.2
        have hb:=A.out.2.2.1
        clear A HA
        generalize hY0:FAF d hs n m=Y at *
        have hst2:=z0m hH4 Y
        have hsu:=z02 .u8 32 Y
        go_wp2_with (first
          | (refine wpList_load_row rfl 32 (.tmp 6) rfl b6 rfl 32 (UARR .u8 32 Y) (0,0) _ hH6 Tryz.underlying32 rfl (z03 _) ?_)
          | fail)
        refine bodyPost_ret (v:=.agg (UARR .u8 32 Y)) (z3c rfl _ _ w.heap.size 32 _ (0,0) _ _ rfl (hH4.row _) Tryz.underlying32 (z03 _)) rfl ⟨by rw [hY0],z0a hb (Nat.le_refl _) _⟩
      | succ q=>
        obtain rfl:x=(q:Int):=by have:=A.out.2.1;omega
        have hq0:(0:Int)≤(q:Int):=by omega
        obtain ⟨h1,h2,h3,h4,h5,h6,h7⟩:=HA.out
        have hqm:q+1≤m:=A.out.1
        have hb1:(q:Int)<(n:Int):=by omega
        have eY:FAF d hs n (m - q)=z4L d (hs q) (FAF d hs n (m - (q+1))):=by
          rw [show m - q=(m - (q+1))+1 by omega,FAF,show n - 2 - (m - (q+1))=q by omega]
        have hr:=h6 (m - (q+1))
        have hl:=h7 q (by omega)
        have hE1:Aside (wrap64 ((q:Int) - 1)=(q:Int) - 1):=by show wrap64 ((q:Int) - 1)=(q:Int) - 1;unfold wrap64;omega
        have hb:=A.out.2.2.1
        have H2:Aside (w.rangeAt gn (o+q*32) (z01 .u8 32 (hs q))∧gn<w.heap.size∧Tabled w∧(∀ j,hs q j<256)∧(∀ j,FAF d hs n (m - (q+1)) j<256)∧FAF d hs n (m - q)=z4L d (hs q) (FAF d hs n (m - (q+1)))∧Below w.heap.size w wr∧Has wr w.heap.size (UARR .u8 32 fun _=>0) 32∧Has wr b6 (UARR .u8 32 (FAF d hs n (m - (q+1)))) 32∧q≤m):=⟨h3 q (by omega),h5,h4,hl,hr,eY,hb,A.out.2.2.2.1,A.out.2.2.2.2,by omega⟩
        clear h1 h2 h3 h4 h5 h6 h7 eY hb hr hl A HA hqm
        go_upto_region 8 with fail
        refine z9w wr gn o n c b6 q d (hs q) (FAF d hs n (m - (q+1))) (FAF d hs n (m - q)) hb1 (fun V=>Below wr.heap.size wr V) (Below.refl _ _).drew (fun V hV=>?_) (fun V hV=>?_) (fun V hV=>?_) (fun _ _ _ _ _ h=>h) ?_
        · exact ⟨z1t (z1t H2.out.1 H2.out.2.2.2.2.2.2.1 H2.out.2.1) hV (Nat.lt_of_lt_of_le H2.out.2.1 H2.out.2.2.2.2.2.2.1.size),H2.out.2.2.2.2.2.2.2.2.1.keep hV⟩
        · have hV2:Below w.heap.size w V:=H2.out.2.2.2.2.2.2.1.trans (hV.mono H2.out.2.2.2.2.2.2.1.size)
          exact z1t H2.out.1 (z0a hV2 (Nat.le_of_lt K.out) _) H2.out.2.1
        · have hV2:Below w.heap.size w V:=H2.out.2.2.2.2.2.2.1.trans (hV.mono H2.out.2.2.2.2.2.2.1.size)
          refine (za0 d (hs q) (FAF d hs n (m - (q+1))) H2.out.2.2.2.1 H2.out.2.2.2.2.1 V (H2.out.2.2.1.below hV2)).mono ?_
          rintro e V' ⟨rfl,hb⟩
          exact ⟨by rw [H2.out.2.2.2.2.2.1];rfl,hV.trans (hb.mono hV.size)⟩
        · intro W3 hW3
          obtain ⟨w0',hw0',hW3⟩:=hW3
          have Z:Aside (q≤m∧Below w.heap.size w W3∧Has W3 w.heap.size (UARR .u8 32 fun _=>0) 32∧Has W3 b6 (UARR .u8 32 (FAF d hs n (m - q))) 32):=by
            have hV2:Below w.heap.size w w0':=H2.out.2.2.2.2.2.2.1.trans (hw0'.mono H2.out.2.2.2.2.2.2.1.size)
            rw [hW3]
            exact ⟨H2.out.2.2.2.2.2.2.2.2.2,z0a hV2 (Nat.le_of_lt K.out) _,(H2.out.2.2.2.2.2.2.2.1.keep hw0').row_other (by have:=K.out;omega) _,(H2.out.2.2.2.2.2.2.2.2.1.keep hw0').row _⟩
          clear hW3 hw0' H2
          have e1:=hE1.out
          go_wp2
          go_roundg q
          case measure=>exact Nat.lt_succ_self _
          case rel=>exact ⟨_,rfl,Z.out.1,by first | rfl | exact hE1.out,Z.out.2⟩
end Go.Proofs.YthjeeblddipiiaaGreatDoor.HX
