/- Texts of SpanVerifies, one behind the other: SpanRefEncode, SpanRefClimb. -/
import Derived.Test.YthdpkaiieomdoaaGreatDoorSpanVerifiesP26
import Derived.Test.YthdpkaiieomdoaaGreatDoorSpanVerifiesP31
namespace Go.Proofs.YthdpkaiieomdoaaGreatDoor
open Go.RowKit
set_option maxRecDepth 100000
set_option maxHeartbeats 4000000 in
theorem z40 (S F T:Nat) (an:Option Addr) (K cn:Nat) (l:List Int) (w:World) (hK:K≤200) (hN:Flat w an K l):
    Calls Tryz.prog 38 #[.agg (RBOX S F T an K cn)] w (z8h w (SENC S F T K l)):=by
  obtain ⟨w0,hw0⟩:∃ w0,w.alloc (.cells (RBOX S F T an K cn) 28)=w0:=⟨_,rfl⟩
  have h1:Has w0 w.heap.size (RBOX S F T an K cn) 28:=by rw [← hw0];exact Has.new w _ _
  have hb0:Below w.heap.size w w0:=by rw [← hw0];exact (Below.refl _ _).alloc (Nat.le_refl _) _
  have cp:=z3Z F T S w0
  have hM:(RBOX S F T an K cn)=#[.int .u64 (S:Int),.int .u64 (F:Int),.int .u64 (T:Int),.slice an K cn]:=rfl
  have CC:Aside (∀ W,Below w0.heap.size w0 W→W.cell? ⟨w.heap.size,0,none⟩=some (.int .u64 (S:Int))∧W.cell? ⟨w.heap.size,1,none⟩=some (.int .u64 (F:Int))∧W.cell? ⟨w.heap.size,2,none⟩=some (.int .u64 (T:Int))∧W.cell? ⟨w.heap.size,3,none⟩=some (.slice an K cn)):=fun W hb=>⟨(h1.keep hb).cell 0,(h1.keep hb).cell 1,(h1.keep hb).cell 2,(h1.keep hb).cell 3⟩
  have HA:Aside (K≤200∧Flat w0 an K l∧Below w.heap.size w w0∧w.heap.size<w0.heap.size):=⟨hK,hN.below hb0,hb0,h1.lt⟩
  obtain ⟨M,hMM⟩:∃ M,SENC S F T K l=M:=⟨_,rfl⟩
  rw [hMM]
  have HM:Aside (SENC S F T K l=M):=hMM
  obtain ⟨x0,x1,x2,x3⟩:=CC.out w0 (Below.refl _ _)
  rw [hM] at hw0
  clear hK hN h1 hb0 hMM
  by_cases hr:SPE F T S=0
  · have hP:SPA F T S=SPP F T S:=if_pos hr
    have q:S≤4611686018427387904∧F≤T∧T≤S:=by
      rcases z3b F T S with ⟨e,_⟩ | ⟨e,_⟩ | ⟨_,_,q⟩
      · rw [e] at hr;cases hr
      · rw [e] at hr;cases hr
      · exact q
    rw [hr,hP] at cp
    unfold z2r at cp
    obtain ⟨P,hPe⟩:∃ P,(SPP F T S).length=P:=⟨_,rfl⟩
    rw [hPe] at cp
    by_cases hKP:K=P
    · subst hKP
      have hM2:M=(0,SWRT S F (T - F) l):=by
        rw [← HM.out]
        unfold SENC
        have:SWA S F T K=0:=by unfold SWA;rw [hr,if_pos rfl,if_pos hPe.symm]
        rw [if_pos this]
      have c1:=z3g S (by omega)
      have c2:=z3g F (by omega)
      have c3:=z3g (T - F) (by omega)
      have hl1:=z0S S
      have hl2:=z0S F
      have hl3:=z0S (T - F)
      have h91:=z2G S
      have h92:=z2G F
      have h93:=z2G (T - F)
      have hr1:=z1r (X:=S) (by omega)
      have hr2:=z1r (X:=F) (by omega)
      have hr3:=z1r (X:=T - F) (by omega)
      have eg:=z1g q.2.1 (show T<2 ^ 64 by omega)
      have eL:SWRT S F (T - F) l=[83] ++ z0o S ++ z0o F ++ z0o (T - F) ++ l:=by unfold SWRT;simp
      rw [hM2]
      obtain ⟨Z,hZ⟩:∃ Z,SWRT S F (T - F) l=Z:=⟨_,rfl⟩
      rw [hZ] at eL ⊢
      obtain ⟨D,hD⟩:∃ D,T - F=D:=⟨_,rfl⟩
      rw [hD] at c3 hl3 h93 hr3 eg eL
      have hn1:0<NTOP S+1:=by omega
      have hn2:0<NTOP F+1:=by omega
      have hn3:0<NTOP D+1:=by omega
      have hm1:NTOP S+1≤10:=by omega
      have hm2:NTOP F+1≤10:=by omega
      have hm3:NTOP D+1≤10:=by omega
      generalize hSX:z0o S=SX at *
      generalize hSY:z0o F=SY at *
      generalize hSD:z0o D=SD at *
      clear h91 h92 h93 hSX hSY hSD hM2 hZ
      generalize NTOP S+1=nx at *
      generalize NTOP F+1=ny at *
      generalize NTOP D+1=nd at *
      have HS:Aside (nx≤10∧ny≤10∧nd≤10∧(∀ x∈SX,0≤x∧x≤255)∧(∀ x∈SY,0≤x∧x≤255)∧(∀ x∈SD,0≤x∧x≤255)∧Z=[83] ++ SX ++ SY ++ SD ++ l):=⟨hm1,hm2,hm3,hr1,hr2,hr3,eL⟩
      have EG:Aside (IntKind.u64.wrap ((T:Int) - (F:Int))=(D:Int)):=eg
      clear hl1 hl2 hl3 hm1 hm2 hm3 hr1 hr2 hr3 eL hr HM q eg hD hP hPe
      go_enter Tryz.func38,Tryz.ntmps38
      rw [hM]
      go_wp2_with fail
      refine cp.mono ?_
      rintro e w1 ⟨ap,kp,rfl,_,hb1⟩
      have B1:Aside (Below w0.heap.size w0 w1):=hb1
      obtain ⟨y0,y1,y2,y3⟩:=CC.out w1 hb1
      have R0:Aside ((w1.alloc (.cells #[.int .u8 83] 5)).ownsRow w1.heap.size 5 1 (.slice (some ⟨w1.heap.size,0,none⟩) 1 1) 1 (z00 [83])∧Below w1.heap.size w1 (w1.alloc (.cells #[.int .u8 83] 5))):=⟨z4E w1 83,(Below.refl _ _).alloc (Nat.le_refl _) _⟩
      have z0:(w1.alloc (.cells #[.int .u8 83] 5)).cell? ⟨w.heap.size,0,none⟩=some (.int .u64 (S:Int)):=(CC.out _ (B1.out.trans (R0.out.2.mono B1.out.size))).1
      clear cp hb1 x0 x1 x2 x3 hw0
      go_wp2_with fail
      generalize w1.alloc (.cells #[.int .u8 83] 5)=wa at *
      refine (c1 _).mono ?_
      rintro e w2 ⟨g,cap,rfl,hown,hg,hb⟩
      have R1:Aside (w2.ownsRow w1.heap.size 5 1 (.slice (some ⟨w1.heap.size,0,none⟩) 1 1) 1 (z00 [83])∧Below w1.heap.size w1 w2∧Bytes w2 (some ⟨g,0,none⟩) nx SX):=⟨z0v R0.out.1 hb,R0.out.2.trans (hb.mono R0.out.2.size),z0X hown hg HS.out.2.2.2.1⟩
      clear hown hg hb R0 c1 y0 y1 y2 y3 z0
      go_wp2_with (first
        | (at_builtin;refine z0D _ rfl (.tmp 26) (.tmp 29) rfl w1.heap.size _ 1 [83] rfl R1.out.1 g 0 nx cap SX rfl R1.out.2.2 hn1 (by have:=HS.out;omega) R1.out.2.1.size ?_;intro g3 cap3 w3 hown hgrow hg
           have R2:Aside (w3.ownsRow w1.heap.size 5 1 (.slice (some ⟨g3,0,none⟩) (1+nx) cap3) (1+nx) (z00 ([83] ++ SX))∧Below w1.heap.size w1 w3):=⟨hown,R1.out.2.1.grown hgrow R1.out.2.1.size (fun k e=>(R1.out.1.lt k e).1)⟩
           have y1:=(CC.out w3 (B1.out.trans (R2.out.2.mono B1.out.size))).2.1
           clear hown hgrow hg R1))
      refine (c2 _).mono ?_
      rintro e w4 ⟨g4,cap4,rfl,hown,hg,hb⟩
      have R3:Aside (w4.ownsRow w1.heap.size 5 1 (.slice (some ⟨g3,0,none⟩) (1+nx) cap3) (1+nx) (z00 ([83] ++ SX))∧Below w1.heap.size w1 w4∧Bytes w4 (some ⟨g4,0,none⟩) ny SY):=⟨z0v R2.out.1 hb,R2.out.2.trans (hb.mono R2.out.2.size),z0X hown hg HS.out.2.2.2.2.1⟩
      clear hown hg hb R2 c2 y1
      go_wp2_with (first
        | (at_builtin;refine z0D _ rfl (.tmp 31) (.tmp 34) rfl w1.heap.size _ (1+nx) ([83] ++ SX) rfl R3.out.1 g4 0 ny cap4 SY rfl R3.out.2.2 hn2 (by have:=HS.out;omega) R3.out.2.1.size ?_;intro g5 cap5 w5 hown hgrow hg
           have R4:Aside (w5.ownsRow w1.heap.size 5 1 (.slice (some ⟨g5,0,none⟩) (1+nx+ny) cap5) (1+nx+ny) (z00 ([83] ++ SX ++ SY))∧Below w1.heap.size w1 w5):=⟨hown,R3.out.2.1.grown hgrow R3.out.2.1.size (fun k e=>(R3.out.1.lt k e).1)⟩
           have y1:=(CC.out w5 (B1.out.trans (R4.out.2.mono B1.out.size))).2.1
           have y2:=(CC.out w5 (B1.out.trans (R4.out.2.mono B1.out.size))).2.2.1
           have eg:=EG.out
           clear hown hgrow hg R3))
      refine (c3 _).mono ?_
      rintro e w6 ⟨g6,cap6,rfl,hown,hg,hb⟩
      have R5:Aside (w6.ownsRow w1.heap.size 5 1 (.slice (some ⟨g5,0,none⟩) (1+nx+ny) cap5) (1+nx+ny) (z00 ([83] ++ SX ++ SY))∧Below w1.heap.size w1 w6∧Bytes w6 (some ⟨g6,0,none⟩) nd SD):=⟨z0v R4.out.1 hb,R4.out.2.trans (hb.mono R4.out.2.size),z0X hown hg HS.out.2.2.2.2.2.1⟩
      clear hown hg hb R4 c3 y1 y2 eg
      go_wp2_with (first
        | (at_builtin;refine z0D _ rfl (.tmp 36) (.tmp 42) rfl w1.heap.size _ (1+nx+ny) ([83] ++ SX ++ SY) rfl R5.out.1 g6 0 nd cap6 SD rfl R5.out.2.2 hn3 (by have:=HS.out;omega) R5.out.2.1.size ?_;intro g7 cap7 w7 hown hgrow hg
           have R6:Aside (w7.ownsRow w1.heap.size 5 1 (.slice (some ⟨g7,0,none⟩) (1+nx+ny+nd) cap7) (1+nx+ny+nd) (z00 ([83] ++ SX ++ SY ++ SD))∧Below w1.heap.size w1 w7):=⟨hown,R5.out.2.1.grown hgrow R5.out.2.1.size (fun k e=>(R5.out.1.lt k e).1)⟩
           have y3:=(CC.out w7 (B1.out.trans (R6.out.2.mono B1.out.size))).2.2.2
           clear hown hgrow hg R5))
      have hb01:Below w0.heap.size w0 w7:=B1.out.trans (R6.out.2.mono B1.out.size)
      have cput:=zfi w1.heap.size _ (1+nx+ny+nd) _ (by have:=HS.out;omega) an K cn (by have:=HA.out.1;omega) l w7 R6.out.2.size R6.out.1 (HA.out.2.1.below hb01) (fun h0 b o e=>by
        obtain ⟨b',o',e',hlt',_⟩:=HA.out.2.1.2.1 h0
        rw [e] at e'
        cases e'
        exact Nat.lt_of_lt_of_le hlt' B1.out.size)
      have FZ:Aside (∀ (e:Ending) (w':World),(∃ v',e=.returned v'∧w'.ownsRow w1.heap.size 5 1 v' (1+nx+ny+nd+32*K) (z00 ([83] ++ SX ++ SY ++ SD ++ l))∧Below w1.heap.size w7 w')→∃ a' c',e=.returned (.slice a' Z.length c')∧w'.ownsRow w.heap.size 5 1 (.slice a' Z.length c') Z.length (z00 Z)∧Below w.heap.size w w'):=by
        rintro e w' ⟨v',he,ho,hbw⟩
        rw [← HS.out.2.2.2.2.2.2] at ho
        have hlen:=z9y ho
        rw [← hlen] at ho
        obtain ⟨a',c',rfl⟩:=z8i ho
        have b1:w.heap.size≤w1.heap.size:=Nat.le_trans HA.out.2.2.1.size B1.out.size
        exact ⟨a',c',he,z0f ho b1,(HA.out.2.2.1.trans (B1.out.mono HA.out.2.2.1.size)).trans ((R6.out.2.trans hbw).mono b1)⟩
      clear hb01
      go_wp2_with fail
      refine cput.mono ?_
      intro e w8 hh
      obtain ⟨a',c',rfl,ho,hbw⟩:=FZ.out e w8 hh
      have FN:Aside (z8h w (0,Z) (.returned (.tuple #[.slice a' Z.length c',.int .i64 0])) w8):=⟨a',c',rfl,ho,hbw⟩
      clear cput hh ho hbw FZ R6 HS HA y3
      go_wp2_with fail
      go_ret2
      exact FN.out
    · have hM2:M=(70,[]):=by
        rw [← HM.out]
        unfold SENC
        have e:SWA S F T K=70:=by unfold SWA;rw [hr,if_pos rfl,if_neg (by rw [hPe];exact hKP)]
        rw [if_neg (by rw [e];decide),e]
      have hne1:((P:Int) == (K:Int))=false:=by simp;omega
      have hne2:((P:Int) != (K:Int))=true:=by simp;omega
      have hne3:¬ (P:Int)=(K:Int):=by omega
      clear hr hP HM hPe q
      rw [hM2]
      go_enter Tryz.func38,Tryz.ntmps38
      rw [hM]
      go_wp2_with fail
      refine cp.mono ?_
      rintro e w1 ⟨ap,kp,rfl,_,hb1⟩
      obtain ⟨y0,y1,y2,y3⟩:=CC.out w1 hb1
      have FN:Aside (Below w.heap.size w w1):=HA.out.2.2.1.trans (hb1.mono HA.out.2.2.1.size)
      clear cp hb1 x0 x1 x2 x3 hw0 y0 y1 y2
      go_wp2_with fail
      go_ret2
      exact ⟨none,0,rfl,z4t _ _,FN.out⟩
  · have hM2:M=(SPE F T S,[]):=by
      rw [← HM.out]
      unfold SENC
      have e:SWA S F T K=SPE F T S:=by unfold SWA;rw [if_neg hr]
      rw [if_neg (by rw [e];exact hr),e]
    have hP:SPA F T S=[]:=if_neg hr
    rw [hP] at cp
    rw [hM2]
    have hr1:(SPE F T S != 0)=true:=by simpa using hr
    generalize SPE F T S=E at *
    unfold z2r at cp
    clear hM2 hP HM
    go_enter Tryz.func38,Tryz.ntmps38
    rw [hM]
    go_wp2_with fail
    refine cp.mono ?_
    rintro e w1 ⟨ap,kp,rfl,_,hb1⟩
    have FN:Aside (Below w.heap.size w w1):=HA.out.2.2.1.trans (hb1.mono HA.out.2.2.1.size)
    clear cp hb1 x0 x1 x2 x3 hw0
    go_wp2_with fail
    go_ret2
    exact ⟨none,0,rfl,z4t _ _,FN.out⟩
end Go.Proofs.YthdpkaiieomdoaaGreatDoor

namespace Go.Proofs.YthdpkaiieomdoaaGreatDoor
open Go.RowKit
set_option maxRecDepth 100000
def SMR (d:Int) (F T:Nat) (ps:List (Nat × Nat)) (lv nd:List Int):List Int:=(GUPS (CLH1 d) F T ps (lv,nd)).1
theorem zeM (d:Int) (F T:Nat) (lv nd:List Int):SMR d F T [] lv nd=[]:=rfl
theorem zdF {d:Int} {F T N i h k:Nat} {lv nd:List Int} (e:(TPS N)[i]?=some (h,k)):SMR d F T ((TPS N).drop i) lv nd=(MUP d h k (SG F T h k) lv nd).1 ++ SMR d F T ((TPS N).drop (i+1)) (MUP d h k (SG F T h k) lv nd).2.1 (MUP d h k (SG F T h k) lv nd).2.2:=by
  rw [z4p e,SMR,GUPS,z9J]
  rfl
theorem zdG {F T N i h k:Nat} (e:(TPS N)[i]?=some (h,k)):GLV F T ((TPS N).drop i)=(SG F T h k).length+GLV F T ((TPS N).drop (i+1))∧GND F T ((TPS N).drop i)=(NEED h k (SG F T h k)).length+GND F T ((TPS N).drop (i+1)):=by
  rw [z4p e]
  exact ⟨rfl,rfl⟩
structure SRCJ (d:Int) (N F T:Nat) (lv nd:List Int) (w w4 wx:World) (b11 i:Nat) (pv:Value) (out lvj ndj:List Int) (ya xa:Option Addr) (yc xc:Nat):Prop where
  row:Has wx b11 #[.slice ya (GLV F T ((TPS N).drop i)) yc,.slice xa (GND F T ((TPS N).drop i)) xc] 72
  l:LFT w ya (GLV F T ((TPS N).drop i)) yc lvj
  n:LFT w xa (GND F T ((TPS N).drop i)) xc ndj
  own:wx.ownsRow w4.heap.size 23 32 pv i (z00 out)
  but:BUT b11 w4 wx
  all:SMR d F T (TPS N) lv nd=out ++ SMR d F T ((TPS N).drop i) lvj ndj
set_option maxHeartbeats 8000000 in
theorem z77 (d:Int) (F T N:Nat) (hT:T<2 ^ 64) (an:Option Addr) (K cn:Nat) (al:Option Addr) (nl cl:Nat) (lv nd:List Int) (w:World) (hn:nl<2 ^ 40) (hK:K≤200) (hFn:Flat w an K nd) (hE:SCE F T N K nl≠0):
    Calls Tryz.prog 13 #[.int .i64 d,.slice al nl cl,.agg #[.int .u64 (N:Int),.int .u64 (F:Int),.int .u64 (T:Int),.slice an K cn]] w (ANSC w (SCLA d F T N K nl lv nd)):=by
  have hP:SCLA d F T N K nl lv nd=(SCE F T N K nl,0,[]):=if_neg hE
  rw [hP]
  obtain ⟨w1,e1⟩:∃ w1,w.alloc (.cells #[.int .u64 (N:Int),.int .u64 (F:Int),.int .u64 (T:Int),.slice an K cn] 28)=w1:=⟨_,rfl⟩
  have hb1:Below w.heap.size w w1:=by rw [← e1];exact (Below.refl _ _).alloc (Nat.le_refl _) _
  have hB1:Has w1 w.heap.size #[.int .u64 (N:Int),.int .u64 (F:Int),.int .u64 (T:Int),.slice an K cn] 28:=by rw [← e1];exact Has.new _ _ _
  have x0:=hB1.cell 0
  have x1:=hB1.cell 1
  have x2:=hB1.cell 2
  have x3:=hB1.cell 3
  have ce:=z40 N F T an K cn nd w1 hK (hFn.below hb1)
  have hM:(RBOX N F T an K cn)=#[.int .u64 (N:Int),.int .u64 (F:Int),.int .u64 (T:Int),.slice an K cn]:=rfl
  rw [hM] at ce
  have HB:Aside (Below w.heap.size w w1∧Has w1 w.heap.size #[.int .u64 (N:Int),.int .u64 (F:Int),.int .u64 (T:Int),.slice an K cn] 28):=⟨hb1,hB1⟩
  have gp:SWA N F T K=0→IntKind.u64.wrap ((T:Int) - (F:Int))=((T - F:Nat):Int):=fun h=>z1g (z2s h).2.1 hT
  have ew:IntKind.u64.wrap (nl:Int)=(nl:Int):=by rw [IntKind.wrap_u64];omega
  clear hK hFn hb1 hB1 hP hT hn hM
  rcases z1Y F T N K nl with ⟨hW,e2⟩ | ⟨hW,hl,e2⟩ | ⟨hW,hl,e2⟩
  · have hME:SENC N F T K nd=(SWA N F T K,[]):=if_neg hW
    rw [e2]
    rw [hME] at ce
    have hw0:(SWA N F T K == 0)=false:=beq_eq_false_iff_ne.2 hW
    clear hME hE e2 gp hW
    generalize SWA N F T K=E at *
    go_enter Tryz.func13,Tryz.ntmps13
    go_wp2_with fail
    refine ce.mono ?_
    rintro e w2 ⟨ae,qe,rfl,_,hb2⟩
    clear ce x0 x1 x2 x3 e1
    have FN:Aside (Below w.heap.size w w2):=HB.out.1.trans (hb2.mono HB.out.1.size)
    clear hb2 HB
    go_wp2_with fail
    go_ret2
    exact ⟨none,0,rfl,⟨rfl,.inl ⟨rfl,rfl⟩⟩,FN.out⟩
  · have hME:SENC N F T K nd=(0,SWRT N F (T - F) nd):=if_pos hW
    have hg:=gp hW
    have hne:((nl:Int) == ((T - F:Nat):Int))=false:=beq_eq_false_iff_ne.2 (by omega)
    rw [e2]
    rw [hME] at ce
    clear hME hE e2 gp hW hl
    generalize SWRT N F (T - F) nd=ll at *
    generalize T - F=D at *
    go_enter Tryz.func13,Tryz.ntmps13
    go_wp2_with fail
    refine ce.mono ?_
    rintro e w2 ⟨ae,qe,rfl,_,hb2⟩
    clear ce x0 x1 x2 x3 e1
    have k2:=HB.out.2.keep hb2
    have x1:=k2.cell 1
    have x2:=k2.cell 2
    have FN:Aside (Below w.heap.size w w2):=HB.out.1.trans (hb2.mono HB.out.1.size)
    clear hb2 k2 HB
    go_wp2_with fail
    go_ret2
    exact ⟨none,0,rfl,⟨rfl,.inl ⟨rfl,rfl⟩⟩,FN.out⟩
  · exact absurd e2 hE
set_option maxHeartbeats 16000000 in
theorem z4A (d:Int) (F T N:Nat) (hTT:T<2 ^ 64) (an:Option Addr) (K cn:Nat) (al:Option Addr) (nl cl:Nat) (lv nd:List Int) (w:World) (hn:nl<2 ^ 40) (hK:K≤200) (hFn:Flat w an K nd) (hcn:K≤cn) (hFl:Flat w al nl lv) (hcl:nl≤cl):
    Calls Tryz.prog 13 #[.int .i64 d,.slice al nl cl,.agg #[.int .u64 (N:Int),.int .u64 (F:Int),.int .u64 (T:Int),.slice an K cn]] w (ANSC w (SCLA d F T N K nl lv nd)):=by
  by_cases hE:SCE F T N K nl=0
  case neg=>exact z77 d F T N hTT an K cn al nl cl lv nd w hn hK hFn hE
  have hP:SCLA d F T N K nl lv nd=(0,PC N,MUPS d (TPS N) (SEG F T) lv nd):=if_pos hE
  rw [hP]
  have hW:SWA N F T K=0∧nl=T - F:=by
    rcases z1Y F T N K nl with ⟨h,e⟩ | ⟨h,h',e⟩ | ⟨h,h',e⟩
    · exact absurd (e ▸ hE) h
    · rw [e] at hE;cases hE
    · exact ⟨h,h'⟩
  obtain ⟨hW,hnl⟩:=hW
  obtain ⟨r1,r2,r3,q2⟩:=z2s hW
  have hME:SENC N F T K nd=(0,SWRT N F (T - F) nd):=if_pos hW
  have hg:=z1g r2 hTT
  have ew:IntKind.u64.wrap (nl:Int)=(nl:Int):=by rw [IntKind.wrap_u64];omega
  have hall:=z8d d (F:=F) r1 r3 lv nd
  have hPC:PC N≤64:=z13 64 N (by omega)
  have hlen:=z1I (n:=N) (by omega)
  obtain ⟨w1,e1⟩:∃ w1,w.alloc (.cells #[.int .u64 (N:Int),.int .u64 (F:Int),.int .u64 (T:Int),.slice an K cn] 28)=w1:=⟨_,rfl⟩
  obtain ⟨b5,hb5⟩:∃ b5,w.heap.size=b5:=⟨_,rfl⟩
  have hb1:Below w.heap.size w w1:=by rw [← e1];exact (Below.refl _ _).alloc (Nat.le_refl _) _
  have hB1:Has w1 b5 #[.int .u64 (N:Int),.int .u64 (F:Int),.int .u64 (T:Int),.slice an K cn] 28:=by rw [← e1,← hb5];exact Has.new _ _ _
  have x0:=hB1.cell 0
  have x1:=hB1.cell 1
  have x2:=hB1.cell 2
  have x3:=hB1.cell 3
  have ce:=z40 N F T an K cn nd w1 hK (hFn.below hb1)
  have hM:(RBOX N F T an K cn)=#[.int .u64 (N:Int),.int .u64 (F:Int),.int .u64 (T:Int),.slice an K cn]:=rfl
  rw [hM,hME] at ce
  have CT:Aside (∀ w,Calls Tryz.prog 39 #[.int .u64 (N:Int)] w fun e w'=>∃ a cap,e=.returned (.slice a (PC N) cap)∧Spots w' a (TPS N)∧(∀ x,a=some x→w.heap.size≤x.block)∧Below w.heap.size w w'):=z83 N r1
  have HB:Aside (Below w.heap.size w w1∧Has w1 b5 #[.int .u64 (N:Int),.int .u64 (F:Int),.int .u64 (T:Int),.slice an K cn] 28∧True∧w.heap.size=b5):=⟨hb1,hB1,trivial,hb5⟩
  have HA:Aside (nl<2 ^ 40∧N≤2 ^ 62∧PC N≤64∧(TPS N).length=PC N∧LFT w al nl cl lv∧LFT w an K cn nd∧nl=GLV F T (TPS N)∧K=GND F T (TPS N)∧SMR d F T (TPS N) lv nd=MUPS d (TPS N) (SEG F T) lv nd):=⟨hn,by omega,hPC,hlen,⟨hFl,hcl⟩,⟨hFn,hcn⟩,by rw [z9M r1 r3];exact hnl,by rw [z9N r1 r3];exact q2,hall⟩
  have hgn:IntKind.u64.wrap ((T:Int) - (F:Int))=(nl:Int):=by rw [hg,hnl]
  clear hn hK hFn hb1 hB1 hP hE hW q2 r1 r2 r3 hME hall hPC hlen hFl hcl hcn hM hnl hTT hg
  generalize SWRT N F (T - F) nd=ll at *
  go_enter Tryz.func13,Tryz.ntmps13
  go_wp2_with fail
  refine ce.mono ?_
  rintro e w2 ⟨ae,qe,rfl,_,hb2⟩
  clear ce x0 x1 x2 x3 e1 hb5
  have k2:=HB.out.2.1.keep hb2
  have x1:=k2.cell 1
  have x2:=k2.cell 2
  have x3:=k2.cell 3
  go_upto_region 8 with fail
  obtain ⟨w3,hw3⟩:∃ w3,w2.alloc (.cells #[.slice al nl cl,.slice an K cn] 72)=w3:=⟨_,rfl⟩
  have hb3:Below w2.heap.size w2 w3:=by rw [← hw3];exact (Below.refl _ _).alloc (Nat.le_refl _) _
  have hR3:Has w3 w2.heap.size #[.slice al nl cl,.slice an K cn] 72:=by rw [← hw3];exact Has.new _ _ _
  rw [hw3]
  have k3:=k2.keep hb3
  have W3:Aside (Below w.heap.size w w3∧Has w3 b5 #[.int .u64 (N:Int),.int .u64 (F:Int),.int .u64 (T:Int),.slice an K cn] 28∧Has w3 w2.heap.size #[.slice al nl cl,.slice an K cn] 72∧w.heap.size=b5∧b5<w2.heap.size):=⟨(HB.out.1.trans (hb2.mono HB.out.1.size)).trans (hb3.mono (HB.out.1.trans (hb2.mono HB.out.1.size)).size),k3,hR3,HB.out.2.2.2,k2.lt⟩
  have x0:=k3.cell 0
  have ct:=CT.out w3
  generalize w2.heap.size=b11 at *
  clear hw3 hb3 hR3 k2 k3 x1 x2 x3 hb2 CT
  go_wp2_with fail
  refine ct.mono ?_
  rintro e w4 ⟨ag,cg,rfl,hsp,hnew,hb4⟩
  clear ct x0
  obtain ⟨M,hM⟩:∃ M,PC N=M:=⟨_,rfl⟩
  rw [hM]
  have W4:Aside (Below w.heap.size w w4∧Has w4 b5 #[.int .u64 (N:Int),.int .u64 (F:Int),.int .u64 (T:Int),.slice an K cn] 28∧w.heap.size=b5∧b5<b11∧b11<w4.heap.size∧Spots w4 ag (TPS N)∧PC N=M∧(∀ x,ag=some x→x.block≠b11)):=by
    refine ⟨W3.out.1.trans (hb4.mono W3.out.1.size),W3.out.2.1.keep hb4,W3.out.2.2.2.1,W3.out.2.2.2.2,(W3.out.2.2.1.keep hb4).lt,hsp,hM,fun x hx=>?_⟩
    have h1:=hnew x hx
    have h2:=W3.out.2.2.1.lt
    omega
  have S0:Aside (SRCJ d N F T lv nd w w4 w4 b11 0 (.slice none 0 0) [] lv nd al an cl cn):=by
    have h:=HA.out
    refine ⟨?_,?_,?_,⟨rfl,.inl ⟨rfl,rfl⟩⟩,BUT.refl _ _,by simp⟩
    · rw [List.drop_zero,← h.2.2.2.2.2.2.1,← h.2.2.2.2.2.2.2.1];exact W3.out.2.2.1.keep hb4
    · rw [List.drop_zero,← h.2.2.2.2.2.2.1];exact h.2.2.2.2.1
    · rw [List.drop_zero,← h.2.2.2.2.2.2.2.1];exact h.2.2.2.2.2.1
  clear hsp hb4 W3 hM hnew
  go_wp2_with fail
  go_loopg [10,13] M (fun q s10 s13 wx=>∃ (i:Nat) (out lvj ndj:List Int) (ya xa:Option Addr) (yc xc:Nat),s13=.int .i64 (i:Int)∧Aside (i+q=M∧SRCJ d N F T lv nd w w4 wx b11 i s10 out lvj ndj ya xa yc xc))
  case atStart=>exact ⟨0,[],lv,nd,al,an,cl,cn,rfl,by omega,S0.out⟩
  case round=>
    obtain ⟨i,out,lvj,ndj,ya,xa,yc,xc,rfl,A⟩:=hrel
    clear S0
    cases gk with
    | zero=>
      obtain rfl:i=M:=by have:=A.out.1;omega
      have hlt:¬ (i:Int)<(i:Int):=by omega
      have FN:Aside (∃ ap cp,u10=.slice ap (PC N) cp∧wr.ownsRow w.heap.size 23 32 (.slice ap (PC N) cp) (PC N) (z00 (MUPS d (TPS N) (SEG F T) lv nd))∧Below w.heap.size w wr):=by
        show ∃ ap cp,u10=.slice ap (PC N) cp∧wr.ownsRow w.heap.size 23 32 (.slice ap (PC N) cp) (PC N) (z00 (MUPS d (TPS N) (SEG F T) lv nd))∧Below w.heap.size w wr
        have h:=A.out.2
        have e:=h.all
        rw [List.drop_of_length_le (by have:=W4.out.2.2.2.2.2.2.1;have:=HA.out.2.2.2.1;omega),zeM,List.append_nil,HA.out.2.2.2.2.2.2.2.2] at e
        have ho:=h.own
        rw [← e] at ho
        rw [W4.out.2.2.2.2.2.2.1]
        obtain ⟨ap,cp,rfl⟩:=zdm ho
        exact ⟨ap,cp,rfl,z0f ho W4.out.1.size,W4.out.1.trans (h.but.2.mono (by have:=W4.out;omega))⟩
      clear A HA W4
      go_wp2_with fail
      obtain ⟨ap,cp,rfl,h1,h2⟩:=FN.out
      go_ret2
      exact ⟨ap,cp,rfl,h1,h2⟩
    | succ q=>
      have hiM:i<M:=by have:=A.out.1;omega
      have hlt:(i:Int)<(M:Int):=by omega
      obtain ⟨⟨h,k⟩,ehk⟩:∃ s,(TPS N)[i]?=some s:=⟨_,List.getElem?_eq_getElem (by have:=W4.out.2.2.2.2.2.2.1;have:=HA.out.2.2.2.1;omega)⟩
      obtain ⟨g,rfl,hg,hc⟩:=W4.out.2.2.2.2.2.1 (by have:=W4.out.2.2.2.2.2.2.1;have:=HA.out.2.2.2.1;omega)
      have hgb:g≠b11:=W4.out.2.2.2.2.2.2.2 _ rfl
      have hnd:=z2c HA.out.2.1 (List.mem_of_getElem? ehk)
      obtain ⟨t1,t2⟩:=zdG (F:=F) (T:=T) ehk
      have t3:=zdF (d:=d) (F:=F) (T:=T) (lv:=lvj) (nd:=ndj) ehk
      have ei:wrap64 ((i:Int)+1)=((i+1:Nat):Int):=by have:=HA.out.2.2.1;have:=W4.out.2.2.2.2.2.2.1;unfold wrap64;omega
      have hbw:Below w.heap.size w wr:=W4.out.1.trans (A.out.2.but.2.mono (by have:=W4.out;omega))
      have hsz:w4.heap.size≤wr.heap.size:=A.out.2.but.2.size
      obtain ⟨w6,hw6⟩:∃ w6,wr.alloc (.cells ZARR 23)=w6:=⟨_,rfl⟩
      obtain ⟨b14,hb14⟩:∃ b14,wr.heap.size=b14:=⟨_,rfl⟩
      have hb6:Below wr.heap.size wr w6:=by rw [← hw6];exact (Below.refl _ _).alloc (Nat.le_refl _) _
      have hz6:Has w6 b14 (z00 ZND).toArray 23:=by rw [← hw6,← hb14,z0P];exact Has.new _ _ _
      have hbw6:Below w.heap.size w w6:=hbw.trans (hb6.mono hbw.size)
      have sL:=z3M d h k (SG F T h k) lvj ndj (GLV F T ((TPS N).drop i)) (GND F T ((TPS N).drop i)) (z88 F T h k) ⟨A.out.2.l.1.1,A.out.2.l.1.2.2⟩ ⟨A.out.2.n.1.1,A.out.2.n.1.2.2⟩ (by omega) (by omega)
      have co:∀ W,Below w6.heap.size w6 W→Calls Tryz.prog 40 #[.int .i64 d,SPOT h k,.int .u64 (F:Int),.int .u64 (T:Int),.agg #[.slice ya (GLV F T ((TPS N).drop i)) yc,.slice xa (GND F T ((TPS N).drop i)) xc]] W (OVR w W (MUP d h k (SG F T h k) lvj ndj).1 (MUP d h k (SG F T h k) lvj ndj).2.1 (MUP d h k (SG F T h k) lvj ndj).2.2 (GLV F T ((TPS N).drop (i+1))) (GND F T ((TPS N).drop (i+1)))):=fun W hW=>by
        have hbW:Below w.heap.size w W:=hbw6.trans (hW.mono hbw6.size)
        have:=zcg d F T w h k hnd.2.2 lvj ndj ya xa (GLV F T ((TPS N).drop i)) (GND F T ((TPS N).drop i)) yc xc W hbW A.out.2.l A.out.2.n (by clear ei;omega) (by clear ei;omega)
        rw [show GLV F T ((TPS N).drop i) - (SG F T h k).length=GLV F T ((TPS N).drop (i+1)) by clear ei;omega,show GND F T ((TPS N).drop i) - (NEED h k (SG F T h k)).length=GND F T ((TPS N).drop (i+1)) by clear ei;omega] at this
        exact this
      have hcell:∀ W,Below w6.heap.size w6 W→W.cell? ⟨g,i*2,none⟩=some (.int .u8 (h:Int))∧W.cell? ⟨g,i*2+1,none⟩=some (.int .u64 (k:Int))∧W.cell? ⟨b5,1,none⟩=some (.int .u64 (F:Int))∧W.cell? ⟨b5,2,none⟩=some (.int .u64 (T:Int)):=fun W hW=>by
        have kb:∀ q,q<w4.heap.size→q≠b11→W.heap[q]?=w4.heap[q]?:=fun q hq hne=>(hW.block q (by have:=hb6.size;clear ei;omega)).trans ((hb6.block q (by clear ei;omega)).trans (A.out.2.but.1 q hq hne))
        exact ⟨(World.cell?_of_block (w:=w4) (by exact kb g hg hgb)).trans (hc i h k ehk).1,(World.cell?_of_block (w:=w4) (by exact kb g hg hgb)).trans (hc i h k ehk).2,(World.cell?_of_block (w:=w4) (by exact kb b5 W4.out.2.1.lt (by have:=W4.out;clear ei;omega))).trans (W4.out.2.1.cell 1),(World.cell?_of_block (w:=w4) (by exact kb b5 W4.out.2.1.lt (by have:=W4.out;clear ei;omega))).trans (W4.out.2.1.cell 2)⟩
      have hrow6:Has w6 b11 #[.slice ya (GLV F T ((TPS N).drop i)) yc,.slice xa (GND F T ((TPS N).drop i)) xc] 72:=A.out.2.row.keep hb6
      have R:Aside (i+1+q=M∧Has w6 b14 (z00 ZND).toArray 23∧Has w6 b11 #[.slice ya (GLV F T ((TPS N).drop i)) yc,.slice xa (GND F T ((TPS N).drop i)) xc] 72∧w6.ownsRow w4.heap.size 23 32 u10 i (z00 out)∧BUT b11 w4 w6∧SMR d F T (TPS N) lv nd=out ++ (MUP d h k (SG F T h k) lvj ndj).1 ++ SMR d F T ((TPS N).drop (i+1)) (MUP d h k (SG F T h k) lvj ndj).2.1 (MUP d h k (SG F T h k) lvj ndj).2.2∧b11<w4.heap.size∧w4.heap.size≤b14∧i≤64∧g<w4.heap.size∧g≠b11∧b5<b11∧(∀ k,u10.ownBlock=some k→k<b14)):=by
        refine ⟨by have:=A.out.1;clear ei;omega,hz6,hrow6,z0n A.out.2.own fun k e=>hb6.block k (A.out.2.own.lt k e).2,A.out.2.but.trans (BUT.of_below hb6 (by have:=W4.out;clear ei;omega)),by rw [A.out.2.all,t3,List.append_assoc],W4.out.2.2.2.2.1,by clear ei;omega,by have:=HA.out.2.2.1;have:=W4.out.2.2.2.2.2.2.1;clear ei;omega,hg,hgb,W4.out.2.2.2.1,fun k e=>by have:=(A.out.2.own.lt k e).2;clear ei;omega⟩
      have CO:Aside _:=co
      have HC:Aside _:=hcell
      have lY:=sL.1.1
      clear A hnd t1 t2 t3 hbw hsz hb6 hz6 hbw6 sL co hcell hrow6 ehk hc hg hgb hiM
      generalize (MUP d h k (SG F T h k) lvj ndj).1=Y at *
      generalize (MUP d h k (SG F T h k) lvj ndj).2.1=lv2 at *
      generalize (MUP d h k (SG F T h k) lvj ndj).2.2=nd2 at *
      generalize GLV F T ((TPS N).drop i)=tl at *
      generalize GND F T ((TPS N).drop i)=tn at *
      go_upto_region 13 with fail
      clear hw6 hb14
      refine zdC w6 d b5 b11 b14 g M cg i h k F T tl yc tn xc (GLV F T ((TPS N).drop (i+1))) (GND F T ((TPS N).drop (i+1))) ya xa Y lY hlt (fun W=>W=w6.drew) (fun p1 p2 p3 p4 W=>LFT w p1 (GLV F T ((TPS N).drop (i+1))) p2 lv2∧LFT w p3 (GND F T ((TPS N).drop (i+1))) p4 nd2∧Below w6.heap.size w6 W) (fun p1 p2 p3 p4 W=>∃ W1,LFT w p1 (GLV F T ((TPS N).drop (i+1))) p2 lv2∧LFT w p3 (GND F T ((TPS N).drop (i+1))) p4 nd2∧Below w6.heap.size w6 W1∧W=W1.setRow b14 (z00 Y).toArray) (fun p1 p2 p3 p4 W=>∃ W1,LFT w p1 (GLV F T ((TPS N).drop (i+1))) p2 lv2∧LFT w p3 (GND F T ((TPS N).drop (i+1))) p4 nd2∧Below w6.heap.size w6 W1∧W=(W1.setRow b14 (z00 Y).toArray).setRow b11 #[.slice p1 (GLV F T ((TPS N).drop (i+1))) p2,.slice p3 (GND F T ((TPS N).drop (i+1))) p4]) rfl ?_ ?_ ?_ ?_ ?_ ?_ ?_ ?_ ?_ ?_ (fun _ _ _ _ _ h=>h) ?_
      · rintro _ rfl
        exact HC.out w6.drew (Below.refl _ w6).drew
      · rintro _ _ _ _ W ⟨_,_,hW⟩
        exact HC.out W hW
      · rintro _ _ _ _ _ ⟨W1,_,_,hW,rfl⟩
        obtain ⟨_,_,_,_,_,_,r7,r8,_,r10,r11,r12,_⟩:=R.out
        have h1:=HC.out W1 hW
        exact ⟨(World.cell?_of_block (w:=W1) (by exact setRow_other _ b14 g _ (by clear ei;omega))).trans h1.1,(World.cell?_of_block (w:=W1) (by exact setRow_other _ b14 g _ (by clear ei;omega))).trans h1.2.1,(World.cell?_of_block (w:=W1) (by exact setRow_other _ b14 b5 _ (by clear ei;omega))).trans h1.2.2.1,(World.cell?_of_block (w:=W1) (by exact setRow_other _ b14 b5 _ (by clear ei;omega))).trans h1.2.2.2⟩
      · rintro _ _ _ _ _ ⟨W1,_,_,hW,rfl⟩
        obtain ⟨_,_,_,_,_,_,r7,r8,_,r10,r11,r12,_⟩:=R.out
        have h1:=HC.out W1 hW
        exact ⟨(World.cell?_of_block (w:=W1) (by exact (setRow_other _ b11 g _ (by clear ei;omega)).trans (setRow_other _ b14 g _ (by clear ei;omega)))).trans h1.1,(World.cell?_of_block (w:=W1) (by exact (setRow_other _ b11 g _ (by clear ei;omega)).trans (setRow_other _ b14 g _ (by clear ei;omega)))).trans h1.2.1,(World.cell?_of_block (w:=W1) (by exact (setRow_other _ b11 b5 _ (by clear ei;omega)).trans (setRow_other _ b14 b5 _ (by clear ei;omega)))).trans h1.2.2.1,(World.cell?_of_block (w:=W1) (by exact (setRow_other _ b11 b5 _ (by clear ei;omega)).trans (setRow_other _ b14 b5 _ (by clear ei;omega)))).trans h1.2.2.2⟩
      · rintro _ rfl
        exact R.out.2.2.1
      · rintro _ rfl
        refine (CO.out w6.drew (Below.refl _ w6).drew).mono ?_
        rintro e w' ⟨p1,p2,p3,p4,rfl,z1,z2,z3⟩
        exact ⟨p1,p2,p3,p4,rfl,z1,z2,(Below.refl _ w6).drew.trans z3⟩
      · rintro _ _ _ _ W ⟨_,_,hW⟩
        exact R.out.2.1.keep hW
      · rintro _ _ _ _ W ⟨z1,z2,hW⟩
        exact ⟨W,z1,z2,hW,rfl⟩
      · rintro _ _ _ _ _ ⟨W1,_,_,hW,rfl⟩
        exact (R.out.2.2.1.keep hW).row_other (by have:=R.out;clear ei;omega) _
      · rintro _ _ _ _ _ ⟨W1,z1,z2,hW,rfl⟩
        exact ⟨W1,z1,z2,hW,rfl⟩
      · rintro ya2 yc2 xa2 xc2 w7 ⟨W1,z1,z2,hW,rfl⟩
        dsimp only
        have R7:Aside (Has ((W1.setRow b14 (z00 Y).toArray).setRow b11 #[.slice ya2 (GLV F T ((TPS N).drop (i+1))) yc2,.slice xa2 (GND F T ((TPS N).drop (i+1))) xc2]) b14 (z00 Y).toArray 23∧Has ((W1.setRow b14 (z00 Y).toArray).setRow b11 #[.slice ya2 (GLV F T ((TPS N).drop (i+1))) yc2,.slice xa2 (GND F T ((TPS N).drop (i+1))) xc2]) b11 #[.slice ya2 (GLV F T ((TPS N).drop (i+1))) yc2,.slice xa2 (GND F T ((TPS N).drop (i+1))) xc2] 72∧((W1.setRow b14 (z00 Y).toArray).setRow b11 #[.slice ya2 (GLV F T ((TPS N).drop (i+1))) yc2,.slice xa2 (GND F T ((TPS N).drop (i+1))) xc2]).ownsRow w4.heap.size 23 32 u10 i (z00 out)∧BUT b11 w4 ((W1.setRow b14 (z00 Y).toArray).setRow b11 #[.slice ya2 (GLV F T ((TPS N).drop (i+1))) yc2,.slice xa2 (GND F T ((TPS N).drop (i+1))) xc2])∧LFT w ya2 (GLV F T ((TPS N).drop (i+1))) yc2 lv2∧LFT w xa2 (GND F T ((TPS N).drop (i+1))) xc2 nd2):=by
          obtain ⟨r1,r2,r3,r4,r5,r6,r7,r8,r9,r10,r11,r12,r13⟩:=R.out
          refine ⟨((r2.keep hW).row _).row_other (by clear ei;omega) _,((r3.keep hW).row_other (by clear ei;omega) _).row _,z0n r4 fun k e=>?_,⟨fun q hq hne=>?_,?_⟩,z1,z2⟩
          · have h1:=(r4.lt k e)
            have h2:=r13 k e
            rw [setRow_other _ b11 k _ (by clear ei;omega),setRow_other _ b14 k _ (by clear ei;omega)]
            exact hW.block k h1.2
          · rw [setRow_other _ b11 q _ hne,setRow_other _ b14 q _ (by clear ei;omega),hW.block q (by have:=r5.2.size;clear ei;omega)]
            exact r5.1 q hq hne
          · exact z04 (z04 (r5.2.trans (hW.mono (by have:=r5.2.size;clear ei;omega))) (by clear ei;omega) _) (Nat.le_refl _) _
        clear z1 z2 hW CO HC
        generalize (W1.setRow b14 (z00 Y).toArray).setRow b11 #[.slice ya2 (GLV F T ((TPS N).drop (i+1))) yc2,.slice xa2 (GND F T ((TPS N).drop (i+1))) xc2]=w7 at *
        have hrow:=R7.out.1
        go_wp2_with (first
          | (refine wpList_load_row rfl 23 (.tmp 14) rfl b14 rfl 23 (z00 Y).toArray (0,0) _ hrow Tryz.underlying23 rfl (z03 lY) ?_)
          | (refine z17 _ rfl 25 23 (.tmp 60) rfl (z00 Y).toArray rfl 32 _ _ Tryz.underlying25 z16 (by simp [z00,lY]) rfl (by decide) (by decide) ?_)
          | (at_builtin;refine z2a _ rfl (.tmp 59) (.tmp 61) rfl w4.heap.size u10 i _ rfl (R7.out.2.2.1.alloc _) _ 1 Y lY rfl (Has.new _ _ _) (by have:=R.out;clear ei;omega) (by have:=R7.out.2.2.2.1.2.size;simp;clear ei;omega) ?_;intro g8 c8 w8 hown hgrow hat hg8))
        have Z:Aside (i+1+q=M∧SRCJ d N F T lv nd w w4 w8 b11 (i+1) (.slice (some ⟨g8,0,none⟩) (i+1) c8) (out ++ Y) lv2 nd2 ya2 xa2 yc2 xc2):=by
          obtain ⟨r1,r2,r3,r4,r5,r6,r7,r8,r9,r10,r11,r12,r13⟩:=R.out
          obtain ⟨s1,s2,s3,s4,s5,s6⟩:=R7.out
          have hbb:∀ q,q<w7.heap.size→u10.ownBlock≠some q→w8.heap[q]?=w7.heap[q]?:=fun q hq hne=>(hgrow.block q (by simp;clear ei;omega) fun e=>hne e.symm).trans (Below.heap_alloc w7 _ q hq)
          have hn11:u10.ownBlock≠some b11:=fun e=>by have:=(s3.lt b11 e).1;clear ei;omega
          refine ⟨r1,(hbb b11 s2.lt hn11).trans s2,s5,s6,by rw [z0m];exact hown,⟨fun q hq hne=>(hbb q (by have:=s4.2.size;clear ei;omega) (fun e=>by have:=(s3.lt q e).1;clear ei;omega)).trans (s4.1 q hq hne),?_⟩,r6⟩
          refine (s4.2.alloc (by have:=s4.2.size;clear ei;omega) _).grown hgrow (by have:=s4.2.size;simp;clear ei;omega) (fun k e=>?_)
          have:=(s3.lt k e).1
          clear ei
          omega
        clear hown hgrow hat hg8 R R7 hrow lY
        go_wp2
        go_roundg q
        case measure=>exact Nat.lt_succ_self _
        case rel=>exact ⟨i+1,out ++ Y,lv2,nd2,ya2,xa2,yc2,xc2,by first | rfl | (rw [ei]),Z.out⟩
end Go.Proofs.YthdpkaiieomdoaaGreatDoor
