/- FindProves: part 40. -/
import Derived.Test.YtlbcnaenhghieaaGreatDoorFindProvesP39
namespace Go.Proofs.YtlbcnaenhghieaaGreatDoor.HX
open Go.RowKit
set_option maxRecDepth 100000
def z3a (w:World) (B g:Nat) (d:Int) (log n:Nat) (C:z01) (f:Nat->Nat->Nat) (x:Nat->Nat) (w':World):Prop:=∃ C',FOREST w' B g d log (n+1) C' (z0C f n x)/\TSTEP w w' g C C'/\Below B w w'
theorem z9c {n:Nat} (h:n<2 ^ 40):IntKind.u64.wrap ((n:Int)+1)=((n+1:Nat):Int):=by
 simp [IntKind.wrap,IntKind.signed,IntKind.bits];omega
theorem ONES.small {n j:Nat} (h:ONES n j) (hn:n<2 ^ 20):j<=20:=by
 rcases Nat.lt_or_ge 20 j with h1 | h1
 ·have h2:=h.span
  have h3:2 ^ 21<=2 ^ j:=Nat.pow_le_pow_right (by decide) h1;have h4:1*2 ^ j<=(n / 2 ^ j+1)*2 ^ j:=Nat.mul_le_mul_right _ (Nat.le_add_left 1 _);generalize n / 2 ^ j=q at *
  omega
 ·exact h1
theorem ONES.node {n j:Nat} (h:ONES n j) (hn:n<2 ^ 20):Node j (n / 2 ^ j):=by
 have hj:=h.small hn;refine ⟨by omega,Nat.lt_of_le_of_lt (Nat.div_le_self _ _) (Nat.lt_of_lt_of_le hn (Nat.pow_le_pow_right (by decide) (by omega)))⟩
theorem z7I {w W1 W:World} {B g:Nat} {d:Int} {log n b:Nat} {C:z01} {f:Nat->Nat->Nat} {x:Nat->Nat} (hnode:∀ h k,(k+1)*2 ^ h<=n->AT C log (PLC h k)=some (VAL d f h k)) (hw5:W1.cell? ⟨g,5,none⟩=some (.int .i64 d)) (hw6:W1.cell? ⟨g,6,none⟩=some (.int .u64 ((n+1:Nat):Int)))
  (hheld:Has W1 b (UARR .u8 32 x) 25) (hoff:¬ FOOT W1 g C b) (hbg:b≠g) (hstep:TSTEP w W1 g C C) (hbel:Below B w W1) (hbase:w.heap.size<=b)
  (hP:z3y W1 B g log (z02 n) (z02 n) (z02 n) C x W):∃ C',GROWING w W B g d log n 0 b C C' (z0C f n x):=by
 obtain ⟨C',s1,s2,s3,s4⟩:=hP;have hbl:=hheld.lt;have hx:VAL d (z0C f n x) 0 (n / 2 ^ 0)=x:=by rw [Nat.pow_zero,Nat.div_one];exact z8J f n x
 refine ⟨C',⟨s1,(s3.pins 5 (by decide)).trans hw5,(s3.pins 6 (by decide)).trans hw6,s1.live 6 (by decide),fun h k hk=>?_,fun i hi=>?_,fun i hi=>by omega,?_,fun hf=>?_,hstep.trans s3.tree,hbel.trans s4,hbase⟩⟩
 ·have h1:=z3l hk
  rw [s2,if_neg (by omega),hnode h k hk,z22 (fun k hk=>(zdC f n x hk).symm) h k hk]
 ·obtain rfl:i=0:=by omega
  rw [s2,if_pos (Nat.add_zero _),hx]
 ·rw [hx]
  exact (s3.same b hbl hbg hoff).trans hheld
 ·rcases s3.foot b hf with h1 | h1
  ·exact hoff h1
  ·omega
theorem GROWING.done {w wx:World} {B g:Nat} {d:Int} {log n j b:Nat} {C Cj:z01} {f:Nat->Nat->Nat} {x:Nat->Nat} (h:GROWING w wx B g d log n j b C Cj (z0C f n x)) (he:n / 2 ^ j % 2=0) (hn:n<2 ^ 20) (hbyte:∀ k,k<n->∀ i,f k i<256) (h8:∀ i,x i<256) (hBg:B<=g):z3a w B g d log n C f x wx:=by
 have hnd:=h.ones.nodes he;have e1:z02 (n+1)=z02 n+1+j:=by omega
 refine ⟨Cj,⟨by rw [e1];exact h.store,h.width,h.size,h.free,fun h1 k hk=>?_,fun k hk i=>?_,by omega,hBg⟩,h.step,h.below⟩
 ·by_cases e:(k+1)*2 ^ h1=n+1
  ·obtain ⟨rfl,ho⟩:=ONES.of_span e
   have hle:h1<=j:=by
    rcases Nat.lt_or_ge j h1 with hlt | hge
    ·have:=ho j hlt
     omega
    ·exact hge
   rw [ho.place];exact h.new h1 hle
  ·exact h.old h1 k (by omega)
 ·unfold z0C
  split
  ·exact h8 i
  ·exact hbyte k (by omega) i
set_option maxHeartbeats 4000000 in
theorem ze0 {w:World} {B g:Nat} {d:Int} {log n:Nat} {C:z01} {f:Nat->Nat->Nat} (hF:FOREST w B g d log n C f) (x:Nat->Nat) (h8:∀ i,x i<256) (hn:n<2 ^ 20) (hT:Tabled w) (hGB:1<B) (hB:B<=w.heap.size):
  Calls Tryz.prog 8 #[.pointer (some ⟨g,0,none⟩),.agg (UARR .u8 32 x)] w fun e w'=>e=.returned (.int .u64 (n:Int))/\z3a w B g d log n C f x w':=by
 obtain ⟨w0,hw0⟩:∃ w0,w.alloc (.cells (UARR .u8 32 x) 25)=w0:=⟨_,rfl⟩
 have hb0:Below w.heap.size w w0:=by rw [<-hw0];exact (Below.refl _ _).alloc (Nat.le_refl _) _
 have h30:Has w0 w.heap.size (UARR .u8 32 x) 25:=by rw [<-hw0];exact Has.new w _ _
 have hF0:=hF.below hb0;have c6:=hF0.size;have f6:=hF0.free;have cl:=Go.Proofs.YtlbcnaenhghieaaGreatDoor.leaf_ok n (by omega);have eu:=z9c (n:=n) (by omega);go_enter Tryz.func8,Tryz.ntmps8;go_wp2_with fail
 refine (cl _).mono ?_;rintro e w1 ⟨rfl,rfl⟩;clear cl;go_upto_region 6 with fail
 have hgl:=hF.store.lt;obtain ⟨hS1,hst1⟩:=hF0.store.side 6 (by decide) (.int .u64 ((n:Int)+1));have hbg:w.heap.size≠g:=by omega
 have h31:Has (w0.setCell ⟨g,6,none⟩ (.int .u64 ((n:Int)+1))) w.heap.size (UARR .u8 32 x) 25:=h30.other hbg _;have hw5:(w0.setCell ⟨g,6,none⟩ (.int .u64 ((n:Int)+1))).cell? ⟨g,5,none⟩=some (.int .i64 d):=(z1N (by decide) _).trans hF0.width;have hw6:(w0.setCell ⟨g,6,none⟩ (.int .u64 ((n:Int)+1))).cell? ⟨g,6,none⟩=some (.int .u64 ((n+1:Nat):Int)):=World.cell?_setCell_same _ _ _ hF0.size;have hbel1:Below B w (w0.setCell ⟨g,6,none⟩ (.int .u64 ((n:Int)+1))):=(hb0.mono hB).setCell (p:=⟨g,6,none⟩) hF.base _;have hst:TSTEP w (w0.setCell ⟨g,6,none⟩ (.int .u64 ((n:Int)+1))) g C C:=(STEP.below hF.store hb0).tree.trans hst1
 have hoff:¬ FOOT (w0.setCell ⟨g,6,none⟩ (.int .u64 ((n:Int)+1))) g C w.heap.size:=fun hf=>by
  rcases hst1.foot _ hf with h1 | h1
  ·exact Nat.lt_irrefl _ (hF.store.foot_lt (hF.store.foot_below hb0 h1))
  ·have:=h30.lt
   omega
 have hb3:w.heap.size<=w.heap.size:=Nat.le_refl _;have A1:Aside ((∀ h k,(k+1)*2 ^ h<=n->AT C log (PLC h k)=some (VAL d f h k))/\(∀ k,k<n->∀ i,f k i<256)/\(∀ i,x i<256)/\n<2 ^ 20/\Tabled w/\1<B/\B<=w.heap.size/\B<=g):=⟨hF.node,hF.byte,h8,hn,hT,hGB,hB,hF.base⟩
 generalize w0.setCell ⟨g,6,none⟩ (.int .u64 ((n:Int)+1))=W1 at *
 obtain ⟨b3,hb3e⟩:∃ b3,w.heap.size=b3:=⟨_,rfl⟩
 rw [hb3e] at h31 hoff hbg hb3 ⊢;have A2:Aside (STORE W1 B g log (z02 n) (z02 n) (z02 n) C/\Has W1 b3 (UARR .u8 32 x) 25/\W1.cell? ⟨g,5,none⟩=some (.int .i64 d)/\W1.cell? ⟨g,6,none⟩=some (.int .u64 ((n+1:Nat):Int))/\Below B w W1/\TSTEP w W1 g C C/\¬ FOOT W1 g C b3/\b3≠g/\w.heap.size<=b3):=⟨hS1,h31,hw5,hw6,hbel1,hst,hoff,hbg,by omega⟩
 clear hF hF0 h30 hb0 c6 f6 hS1 hst1 hbg h31 hw5 hw6 hbel1 hst hoff hb3 hgl h8 hn hT hGB hB hw0 hb3e;refine z99 W1 g b3 (z02 n) x (fun W=>W=W1.drew) (fun W=>z3y W1.drew B g log (z02 n) (z02 n) (z02 n) C x W) rfl (fun W e=>by rw [e];exact (show Has W1.drew b3 _ _ from A2.out.2.1).whole) (fun W hP=>?_) (fun W e=>?_) (fun _ _ _ _ _ h=>h) ?_
 ·obtain ⟨C',s1,s2,s3,s4⟩:=hP
  exact (show Has W b3 (UARR .u8 32 x) 25 from (s3.same b3 A2.out.2.1.lt A2.out.2.2.2.2.2.2.2.1 A2.out.2.2.2.2.2.2.1).trans A2.out.2.1).whole
 ·subst e
  have hlt:z02 n<2 ^ 22:=Nat.lt_trans (z2p (h:=20) A1.out.2.2.2.1) (by decide);exact zaO (A2.out.1.below (Below.refl _ _).drew) x A1.out.2.2.1 (by omega) (by omega) A1.out.2.2.2.2.2.2.2 (by omega)
 ·intro W hP
  have hG:∃ C',GROWING w W B g d log n 0 b3 C C' (z0C f n x):=z7I (W1:=W1.drew) A1.out.1 A2.out.2.2.1 A2.out.2.2.2.1 A2.out.2.1 A2.out.2.2.2.2.2.2.1 A2.out.2.2.2.2.2.2.2.1 (A2.out.2.2.2.2.2.1.trans (STEP.below A2.out.1 (Below.refl _ _).drew).tree) A2.out.2.2.2.2.1.drew A2.out.2.2.2.2.2.2.2.2 hP;clear hP A2;obtain ⟨C0,hG⟩:=hG;have hBW:B<=W.heap.size:=Nat.le_trans A1.out.2.2.2.2.2.2.1 hG.step.size;have hG2:=hG.moved hBW;have hv:VAL d (z0C f n x) 0 (n / 2 ^ 0)=x:=by rw [Nat.pow_zero,Nat.div_one];exact z8J f n x
  rw [hv] at hG2;have hx3:=hG.held;rw [hv] at hx3;have A3:Aside (GROWING w (W.alloc (.cells (UARR .u8 32 x) 25)) B g d log n 0 W.heap.size C C0 (z0C f n x)):=hG2;have hst:=run_storeCells_new (P:=Tryz.prog) W 25 (UARR .u8 32 fun _=>0) (UARR .u8 32 x) (z04 _) (by rw [z03,z03]) (z0j _ _ _);have hsu:=z03 .u8 32 x;have hz:=z1I;clear hG hG2 hv hBW
  go_wp2_with (first
   | (refine wpList_load_row rfl 25 (.tmp 3) rfl b3 rfl 25 (UARR .u8 32 x) (0,0) _ hx3 Tryz.underlying25 rfl (z04 _) ?_)
   | fail)
  clear hst hsu hx3;obtain ⟨W2,hW2⟩:∃ W2,W.alloc (.cells (UARR .u8 32 x) 25)=W2:=⟨_,rfl⟩
  rw [hW2] at A3 ⊢;obtain ⟨b8,hb8⟩:∃ b8,W.heap.size=b8:=⟨_,rfl⟩
  rw [hb8] at A3 ⊢;clear hW2 hb8;go_loopg [6,8] n (fun r s6 s8 wx=>∃ (j b:Nat) (Cj:z01),s6=.int .u64 ((z02 n+j:Nat):Int)/\s8=.pointer (some ⟨b,0,none⟩)/\Aside (j+r=n/\GROWING w wx B g d log n j b C Cj (z0C f n x)))
  case atStart=>exact ⟨0,b8,C0,rfl,rfl,by omega,A3.out⟩
  case round=>
   obtain ⟨j,b,Cj,rfl,rfl,A⟩:=hrel;clear A3;have hones:=A.out.2.ones;have hN:=hones.node A1.out.2.2.2.1;have hpl:=hones.place;have cr:=Go.Proofs.YtlbcnaenhghieaaGreatDoor.right_ok j (n / 2 ^ j) hN;rw [hpl] at cr;by_cases hodd:n / 2 ^ j % 2=1
   ·have hev:decide (n / 2 ^ j % 2=1)=true:=decide_eq_true hodd
    rw [hev] at cr;have hbx:B<=wr.heap.size:=Nat.le_trans A1.out.2.2.2.2.2.2.1 A.out.2.step.size;have hnx:=hones.next hodd;obtain ⟨r,rfl⟩:∃ r,gk=r+1:=⟨gk - 1,by have:=hnx.lt;have:=A.out.1;omega⟩
    have A4:Aside (GROWING w wr B g d log n j b C Cj (z0C f n x)/\B<=wr.heap.size/\ONES n (j+1)/\Node j (n / 2 ^ j)/\PLC j (n / 2 ^ j)=z02 n+j/\n / 2 ^ j=2*(n / 2 ^ (j+1))+1/\j+1+r=n/\j<=20):=⟨A.out.2,hbx,hnx,hN,hpl,by rw [z0r];omega,by have:=A.out.1;omega,hones.small A1.out.2.2.2.1⟩
    clear hev hodd hN hpl hones A hbx hnx;go_wp2_with fail
    refine (cr _).mono ?_;rintro e wa ⟨rfl,hba⟩;clear cr;have hGa:=A4.out.1.keep A4.out.2.1 hba;have hBa:B<=wa.heap.size:=Nat.le_trans A4.out.2.1 hba.size;clear hba;obtain ⟨L,hL⟩:∃ L,VAL d (z0C f n x) j (2*(n / 2 ^ (j+1)))=L:=⟨_,rfl⟩
    obtain ⟨X,hX⟩:∃ X,VAL d (z0C f n x) j (n / 2 ^ j)=X:=⟨_,rfl⟩
    obtain ⟨Y,hY⟩:∃ Y,VAL d (z0C f n x) (j+1) (n / 2 ^ (j+1))=Y:=⟨_,rfl⟩
    have hYN:Y=z0F d (1 :: ((List.range 32).map L ++ (List.range 32).map X)):=by
     rw [<-hY,VAL,hL,<-A4.out.2.2.2.2.2.1,hX];rfl
    have hspan:=(ONES.span (n:=n) (j:=j) fun i hi=>A4.out.2.2.1 i (by omega))
    have hleft:(2*(n / 2 ^ (j+1))+1)*2 ^ j<=n:=by
     rw [<-A4.out.2.2.2.2.2.1];have h1:(n / 2 ^ j+1)*2 ^ j=n / 2 ^ j*2 ^ j+2 ^ j:=by rw [Nat.add_mul,Nat.one_mul]
     have h2:0<2 ^ j:=Nat.two_pow_pos j;omega
    have hbytes:∀ k,k<n+1->∀ i,z0C f n x k i<256:=fun k hk i=>by
     unfold z0C;split
     ·exact A1.out.2.2.1 i
     ·exact A1.out.2.1 k (by omega) i
    have hL8:∀ i,L i<256:=fun i=>by rw [<-hL];exact z4J hbytes _ _ (by omega) i
    have hX8:∀ i,X i<256:=fun i=>by rw [<-hX];exact z4J hbytes _ _ (by omega) i
    have hY8:∀ i,Y i<256:=fun i=>by rw [hYN];exact z32 d _ _ i
    have hsib:SIB (n / 2 ^ j)=2*(n / 2 ^ (j+1)):=by rw [A4.out.2.2.2.2.2.1];unfold SIB;rw [if_pos (by omega)];omega
    have hatL:AT Cj log (PLC j (SIB (n / 2 ^ j)))=some L:=by rw [hsib,hGa.old j _ hleft,hL]
    have hltL:PLC j (SIB (n / 2 ^ j))<z02 n+1+j:=by rw [hsib];have:=z3l hleft;omega
    have hheld:Has wa b (UARR .u8 32 X) 25:=by rw [<-hX];exact hGa.held
    have hTa:Tabled wa:=⟨fun i hi=>(hGa.below.cell (by show 1<B;have:=A1.out.2.2.2.2.2.1;omega)).trans (A1.out.2.2.2.2.1.1 i hi),fun i hi=>(hGa.below.cell (by show 0<B;have:=A1.out.2.2.2.2.2.1;omega)).trans (A1.out.2.2.2.2.1.2.1 i hi),by have:=A1.out.2.2.2.2.2.1;omega⟩
    have A5:Aside (GROWING w wa B g d log n j b C Cj (z0C f n x)/\B<=wa.heap.size/\Has wa b (UARR .u8 32 X) 25/\Tabled wa/\(∀ i,L i<256)/\(∀ i,X i<256)/\(∀ i,Y i<256)/\Y=z0F d (1 :: ((List.range 32).map L ++ (List.range 32).map X))/\AT Cj log (PLC j (SIB (n / 2 ^ j)))=some L/\PLC j (SIB (n / 2 ^ j))<z02 n+1+j/\VAL d (z0C f n x) (j+1) (n / 2 ^ (j+1))=Y):=⟨hGa,hBa,hheld,hTa,hL8,hX8,hY8,hYN,hatL,hltL,hY⟩
    clear hGa hBa hheld hTa hL8 hX8 hY8 hYN hatL hltL hY hsib hbytes hleft hspan hX hL;go_upto_region 10 with fail
    refine zad wa g b (z02 n+j) d L X Y (fun V=>Below wa.heap.size wa V) (Below.refl _ _).drew (fun V hV=>?_) (fun V hV=>?_) (fun V hV=>?_) (fun V hV=>?_) (fun _ _ _ _ _ h=>h) ?_
    ·have h1:=A5.out.2.2.1.keep hV
     exact ⟨(A5.out.1.keep A5.out.2.1 hV).width,h1.whole,h1⟩
    ·exact ((A5.out.1.keep A5.out.2.1 hV).off_row A1.out.2.2.2.2.2.2.1 Y).2.1 5 |>.trans (A5.out.1.keep A5.out.2.1 hV).width
    ·have h1:=zgF (A5.out.1.keep A5.out.2.1 hV).store j (n / 2 ^ j) A4.out.2.2.2.1 (by have:=A4.out.2.2.2.2.2.2.2;omega) A5.out.2.2.2.2.2.2.2.2.2.1 L A5.out.2.2.2.2.2.2.2.2.1
     rw [A4.out.2.2.2.2.1] at h1;refine h1.mono ?_;rintro e V' ⟨rfl,hb⟩;exact ⟨rfl,hV.trans (hb.mono hV.size)⟩
    ·refine (zgE d L X A5.out.2.2.2.2.1 A5.out.2.2.2.2.2.1 V (A5.out.2.2.2.1.below hV)).mono ?_
     rintro e V' ⟨rfl,hb⟩;exact ⟨by rw [A5.out.2.2.2.2.2.2.2.1],hV.trans (hb.mono hV.size)⟩
    ·intro W3 hW3
     obtain ⟨w0',hw0',hW3⟩:=hW3;have hGw:=A5.out.1.keep A5.out.2.1 hw0';have hrow:=hGw.off_row A1.out.2.2.2.2.2.2.1 Y;rw [<-hW3] at hrow;have A6:Aside (STORE W3 B g log (z02 n+1+j) (z02 n+1+j) (z02 n+1+j) Cj/\W3.cell? ⟨g,5,none⟩=some (.int .i64 d)/\W3.cell? ⟨g,6,none⟩=some (.int .u64 ((n+1:Nat):Int))/\Has W3 b (UARR .u8 32 Y) 25/\¬ FOOT W3 g Cj b/\TSTEP w W3 g C Cj/\Below B w W3/\b≠g/\w.heap.size<=b):=⟨hrow.1,(hrow.2.1 5).trans hGw.width,(hrow.2.1 6).trans hGw.size,hrow.2.2.2.1,hrow.2.2.2.2.1,hrow.2.2.2.2.2.1,hrow.2.2.2.2.2.2,hGw.lt.1,hGw.base⟩
     clear hW3 hGw hrow hw0';go_upto_region 11 with fail
     refine zac W3 g b (z02 n+1+j) Y (fun V=>V=W3.drew) (fun V=>z3y W3.drew B g log (z02 n+1+j) (z02 n+1+j) (z02 n+1+j) Cj Y V) rfl (fun V e=>by rw [e];exact (show Has W3.drew b _ _ from A6.out.2.2.2.1).whole) (fun V hP=>?_) (fun V e=>?_) (fun _ _ _ _ _ h=>h) ?_
     ·obtain ⟨C',s1,s2,s3,s4⟩:=hP
      exact (show Has V b (UARR .u8 32 Y) 25 from (s3.same b A6.out.2.2.2.1.lt A6.out.2.2.2.2.2.2.2.1 A6.out.2.2.2.2.1).trans A6.out.2.2.2.1).whole
     ·subst e
      have hlt:z02 n<2 ^ 22:=Nat.lt_trans (z2p (h:=20) A1.out.2.2.2.1) (by decide);have h20:=A4.out.2.2.2.2.2.2.2;exact zaO (A6.out.1.below (Below.refl _ _).drew) Y A5.out.2.2.2.2.2.2.1 (by omega) (by omega) A1.out.2.2.2.2.2.2.2 (by omega)
     ·intro V hP
      have hG:∃ C',GROWING w V B g d log n (j+1) b C C' (z0C f n x):=z6T (wx:=W3.drew) A6.out.2.1 A6.out.2.2.1 A5.out.1.old A5.out.1.new A4.out.2.2.1 A6.out.2.2.2.1 A5.out.2.2.2.2.2.2.2.2.2.2.symm A6.out.2.2.2.2.1 A6.out.2.2.2.2.2.2.2.1 (A6.out.2.2.2.2.2.1.trans (STEP.below A6.out.1 (Below.refl _ _).drew).tree) A6.out.2.2.2.2.2.2.1.drew A6.out.2.2.2.2.2.2.2.2 hP;clear hP A6;obtain ⟨C0',hG⟩:=hG;have hBV:B<=V.heap.size:=Nat.le_trans A1.out.2.2.2.2.2.2.1 hG.step.size;have hG2:=hG.moved hBV;rw [A5.out.2.2.2.2.2.2.2.2.2.2] at hG2;have hx3:=hG.held;rw [A5.out.2.2.2.2.2.2.2.2.2.2] at hx3;have A7:Aside (GROWING w (V.alloc (.cells (UARR .u8 32 Y) 25)) B g d log n (j+1) V.heap.size C C0' (z0C f n x)):=hG2;have hst:=run_storeCells_new (P:=Tryz.prog) V 25 (UARR .u8 32 fun _=>0) (UARR .u8 32 Y) (z04 _) (by rw [z03,z03]) (z0j _ _ _);have hsu:=z03 .u8 32 Y;have en:=z9c (n:=z02 n+j) (by have hlt:z02 n<2 ^ 22:=Nat.lt_trans (z2p (h:=20) A1.out.2.2.2.1) (by decide);have h20:=A4.out.2.2.2.2.2.2.2;omega);clear hG hG2 hBV A5
      go_wp2_with (first
       | (refine wpList_load_row rfl 25 (.tmp 8) rfl b rfl 25 (UARR .u8 32 Y) (0,0) _ hx3 Tryz.underlying25 rfl (z04 _) ?_)
       | fail)
      go_roundg r
      case measure=>exact Nat.lt_succ_self _
      case rel=>exact ⟨j+1,V.heap.size,C0',by first | rfl | exact congrArg (Value.int IntKind.u64) en,rfl,A4.out.2.2.2.2.2.2.1,A7.out⟩
   ·have hev:decide (n / 2 ^ j % 2=1)=false:=decide_eq_false hodd
    rw [hev] at cr;have hbx:B<=wr.heap.size:=Nat.le_trans A1.out.2.2.2.2.2.2.1 A.out.2.step.size;have FIN:Aside (∀ W',Below wr.heap.size wr W'->z3a w B g d log n C f x W'):=fun W' hb=>(A.out.2.keep hbx hb).done (by omega) A1.out.2.2.2.1 A1.out.2.1 A1.out.2.2.1 A1.out.2.2.2.2.2.2.2;clear hev hodd hN hpl hones A hbx;go_wp2_with fail
    refine (cr _).mono ?_;rintro e W9 ⟨rfl,hb9⟩;have hfin:=FIN.out _ hb9;clear cr hb9 FIN;go_wp2_with fail
    go_ret;exact ⟨rfl,hfin⟩
def HB (x:Nat):Nat->Nat:=fun i=>if i=0 then x else 0
structure AW (w wx:World) (B g:Nat) (log n:Nat) (C:z01) (f:Nat->Nat->Nat) (d:Int) (b3 b4 b5:Nat) (x y z:Nat->Nat):Prop where
 tree:FOREST wx B g d log n C f
 h3:Has wx b3 (UARR .u8 32 x) 25
 h4:Has wx b4 (UARR .u8 32 y) 25
 h5:Has wx b5 (UARR .u8 32 z) 25
 off:¬ FOOT wx g C b3/\¬ FOOT wx g C b4/\¬ FOOT wx g C b5
 below:Below B w wx
theorem FOREST.ne {w:World} {B g:Nat} {d:Int} {log n b:Nat} {C:z01} {f:Nat->Nat->Nat} (h:FOREST w B g d log n C f) {c:Array Value} (hb:Has w b c 25):b≠g:=fun e=>by
 obtain ⟨cs,t,fr,k1,_,_,k4⟩:=h.store.kind;unfold Has at hb;rw [e,k1] at hb;cases Option.some.inj hb;exact k4 rfl
theorem AW.next {w wx w':World} {B g:Nat} {log n:Nat} {C:z01} {f:Nat->Nat->Nat} {d:Int} {b3 b4 b5:Nat} {x y z u:Nat->Nat} (h:AW w wx B g log n C f d b3 b4 b5 x y z) (hA:z3a wx B g d log n C f u w'):∃ C',AW w w' B g log (n+1) C' (z0C f n u) d b3 b4 b5 x y z:=by
 obtain ⟨C',a1,a2,a3⟩:=hA
 have key:∀ {b:Nat} {c:Array Value},Has wx b c 25->¬ FOOT wx g C b->Has w' b c 25/\¬ FOOT w' g C' b:=fun {b c} hb hf=>by
  refine ⟨(a2.same b hb.lt (h.tree.ne hb) hf).trans hb,fun hf'=>?_⟩;rcases a2.foot b hf' with h1 | h1
  ·exact hf h1
  ·have:=hb.lt
   omega
 exact ⟨C',a1,(key h.h3 h.off.1).1,(key h.h4 h.off.2.1).1,(key h.h5 h.off.2.2).1,⟨(key h.h3 h.off.1).2,(key h.h4 h.off.2.1).2,(key h.h5 h.off.2.2).2⟩,h.below.trans a3⟩
theorem AW.keep {w wx w':World} {B g:Nat} {log n:Nat} {C:z01} {f:Nat->Nat->Nat} {d:Int} {b3 b4 b5:Nat} {x y z:Nat->Nat} (h:AW w wx B g log n C f d b3 b4 b5 x y z) (hB:B<=wx.heap.size) (hb:Below wx.heap.size wx w'):AW w w' B g log n C f d b3 b4 b5 x y z:=
 ⟨h.tree.below hb,h.h3.keep hb,h.h4.keep hb,h.h5.keep hb,⟨fun hf=>h.off.1 (h.tree.store.foot_below hb hf),fun hf=>h.off.2.1 (h.tree.store.foot_below hb hf),fun hf=>h.off.2.2 (h.tree.store.foot_below hb hf)⟩,h.below.trans (hb.mono hB)⟩
theorem FOREST.congr {w:World} {B g:Nat} {d:Int} {log n:Nat} {C:z01} {f f':Nat->Nat->Nat} (h:FOREST w B g d log n C f) (he:∀ k,k<n->f k=f' k):FOREST w B g d log n C f':=
 ⟨h.store,h.width,h.size,h.free,fun h1 k hk=>by rw [h.node h1 k hk,z22 he h1 k hk],fun k hk i=>by rw [<-he k hk];exact h.byte k hk i,h.few,h.base⟩
def RTS (d:Int) (hs:Nat->Nat->Nat) (k:Nat):List (Nat->Nat):=(List.range k).map (z9a d hs)
theorem zcg (d:Int) (hs:Nat->Nat->Nat) (k:Nat):(RTS d hs k).length=k:=by simp [RTS]
theorem zh4 (d:Int) (hs:Nat->Nat->Nat) {k i:Nat} (h:i<k):(RTS d hs k).getD i (fun _=>0)=z9a d hs i:=by
 rw [List.getD_eq_getElem?_getD,RTS,List.getElem?_map,List.getElem?_range h];rfl
structure ROOTS (w wx:World) (B g:Nat) (d:Int) (i k:Nat) (C:z01) (hs:Nat->Nat->Nat) (v:Value):Prop where
 tree:FOREST wx B g d 0 i C hs
 own:wx.ownsRow B 25 32 v k (HL (RTS d hs k))
 off:∀ b,v.ownBlock=some b->¬ FOOT wx g C b/\b≠g
 below:Below B w wx
theorem ROOTS.keep {w wx w':World} {B g:Nat} {d:Int} {i k:Nat} {C:z01} {hs:Nat->Nat->Nat} {v:Value} (h:ROOTS w wx B g d i k C hs v) (hB:B<=wx.heap.size) (hb:Below wx.heap.size wx w'):ROOTS w w' B g d i k C hs v:=
 ⟨h.tree.below hb,z2l h.own hb,fun b e=>⟨fun hf=>(h.off b e).1 (h.tree.store.foot_below hb hf),(h.off b e).2⟩,h.below.trans (hb.mono hB)⟩
theorem ROOTS.appended {w wx w':World} {B g:Nat} {d:Int} {i k:Nat} {C:z01} {hs:Nat->Nat->Nat} {v:Value} (h:ROOTS w wx B g d i k C hs v) (hA:z3a wx B g d 0 i C hs (hs i) w'):∃ C',ROOTS w w' B g d (i+1) k C' hs v:=by
 obtain ⟨C',a1,a2,a3⟩:=hA;refine ⟨C',a1.congr fun k hk=>?_,?_,fun b e=>⟨fun hf=>?_,(h.off b e).2⟩,h.below.trans a3⟩
 ·unfold z0C
  split
  ·rename_i e;rw [e]
  ·rfl
 ·refine ⟨h.own.1,h.own.2.imp id ?_⟩
  rintro ⟨g',c,cur,rfl,b,r,rest⟩;exact ⟨g',c,cur,rfl,b,(a2.same g' (Array.getElem?_eq_some_iff.1 r).1 (h.off g' rfl).2 (h.off g' rfl).1).trans r,rest⟩
 ·rcases a2.foot b hf with h1 | h1
  ·exact (h.off b e).1 h1
  ·have:=(h.own.lt b e).2
   omega
theorem ROOTS.at {w wx:World} {B g:Nat} {d:Int} {i k j gl cl:Nat} {C:z01} {hs:Nat->Nat->Nat} (h:ROOTS w wx B g d i k C hs (.slice (some ⟨gl,0,none⟩) k cl)) (hj:j<k):wx.rangeAt gl (j*32) (z05 .u8 32 (z9a d hs j))/\gl<wx.heap.size:=by
 obtain ⟨a,c,e,hH⟩:=zcf h.own (zcg d hs k);cases e;obtain ⟨b,o,e,hl,hr⟩:=hH (by omega);cases e;have h1:=hr j hj;dsimp only at h1;rw [zh4 d hs hj,Nat.zero_add] at h1;exact ⟨h1,hl⟩
end Go.Proofs.YtlbcnaenhghieaaGreatDoor.HX
namespace Go.Proofs.YtlbcnaenhghieaaGreatDoor
open Go.RowKit
set_option maxRecDepth 100000
theorem zch {α:Type} (p q r s a:α):∀ x,x<4->UPD (V4 p q r s) 3 a x=V4 p q r a x:=z2M rfl rfl rfl rfl
theorem FST.last {w0 W:World} {B b1 b2 m3 b3 b4:Nat} {p q r s a:Value} {i j k l b:Nat} {x y z u t:List Value} (h:FST w0 W B b1 b2 m3 b3 b4 (UPD (V4 p q r s) 3 a) (UPD (V4 i j k l) 3 b) (UPD (V4 x y z u) 3 t)):FST w0 W B b1 b2 m3 b3 b4 (V4 p q r a) (V4 i j k b) (V4 x y z t):=
 ⟨h.fam.same (zch _ _ _ _ _) (zch _ _ _ _ _) (zch _ _ _ _ _),h.kept,h.bel,h.big⟩
def LFP (lv:List Int) (i:Nat):Nat->Nat:=FNC (HSH lv i)
theorem z6q {lv:List Int} {nl i:Nat} (hl:HSS nl lv) (hi:i<nl):IsH (HSH lv i):=⟨z1O hl.1 hi,fun x hx=>hl.2 x (List.mem_of_mem_drop (List.mem_of_mem_take hx))⟩
theorem zci {d:Int} {lv:List Int} {nl:Nat} (hl:HSS nl lv) {i:Nat} (hi:i<nl):TVAL d (LFP lv) 0 i=HSH lv i:=by
 show LST (FNC (HSH lv i))=HSH lv i;exact zaR (z6q hl hi)
theorem Aside.put {p:Prop} (h:p):Aside p:=h
end Go.Proofs.YtlbcnaenhghieaaGreatDoor
