/- Texts of SpanMakes, one behind the other: ManyApart, ManyKept, SpanEncode, SpanTexts, SpanAwake, SpanPairs, VerifyUnder, VerifyRooted, ProofReaders, ProofInTurn, ProofSteps, ProofDecodeSteps, ProofDecode, ProofOwned, VerifyMember, VerifyReachRegion, CutJoins, VerifyReach, VerifyPrefix, VerifyTurnsPlain. -/
import Derived.Test.YtnmalbngdhjhjaaGreatDoorSpanMakesP37
namespace Go.Proofs.YtnmalbngdhjhjaaGreatDoor
open Go.RowKit
set_option maxRecDepth 100000
end Go.Proofs.YtnmalbngdhjhjaaGreatDoor

namespace Go.Proofs.YtnmalbngdhjhjaaGreatDoor
open Go.RowKit
set_option maxRecDepth 100000
structure BPAIR (w0 w:World) (B:Nat) (a:Value) (na:Nat) (xa:List Value) (b:Value) (nb:Nat) (xb:List Value):Prop where
  ra:w.ownsRow B 5 1 a na xa
  rb:w.ownsRow B 5 1 b nb xb
  ap:∀ g,a.ownBlock=some g→b.ownBlock≠some g
  bl:Below B w0 w
  bs:B≤w0.heap.size
theorem BPAIR.step {w0 w w':World} {B:Nat} {a:Value} {na:Nat} {xa:List Value} {b:Value} {nb:Nat} {xb:List Value} (h:BPAIR w0 w B a na xa b nb xb) {a':Value} {na':Nat} {xa':List Value} (hown:w'.ownsRow B 5 1 a' na' xa') (hg:w.grownBy w' a.ownBlock) (hat:∀ g,a'.ownBlock=some g→a.ownBlock=some g∨w.heap.size≤g):BPAIR w0 w' B a' na' xa' b nb xb:=by
  refine ⟨hown,z20 h.rb hg h.ap,fun g e1 e2=>?_,h.bl.grown hg (Nat.le_trans h.bs h.bl.size) (fun k e=>(h.ra.lt k e).1),h.bs⟩
  rcases hat g e1 with h1 | h1
  · exact h.ap g h1 e2
  · have:=(h.rb.lt g e2).2
    omega
theorem BPAIR.alloc {w0 w:World} {B:Nat} {a:Value} {na:Nat} {xa:List Value} {b:Value} {nb:Nat} {xb:List Value} (h:BPAIR w0 w B a na xa b nb xb) (o:Obj):BPAIR w0 (w.alloc o) B a na xa b nb xb:=⟨z1f h.ra o,z1f h.rb o,h.ap,h.bl.alloc (Nat.le_trans h.bs h.bl.size) o,h.bs⟩
end Go.Proofs.YtnmalbngdhjhjaaGreatDoor

namespace Go.Proofs.YtnmalbngdhjhjaaGreatDoor
open Go.RowKit
set_option maxRecDepth 100000
def RBOX (S F T:Nat) (a:Option Addr) (K c:Nat):Array Value:=#[.int .u64 (S:Int),.int .u64 (F:Int),.int .u64 (T:Int),.slice a K c]
def SWRT (S F D:Nat) (l:List Int):List Int:=83 :: (z1c S ++ z1c F ++ z1c D ++ l)
theorem zdf {x k:Nat} (h:k≤x) (hx:x<2 ^ 64):IntKind.u64.wrap ((x:Int) - (k:Int))=((x - k:Nat):Int):=by
  rw [z0a];omega
set_option maxHeartbeats 2000000 in
theorem z9O (S F T:Nat) (hS:S<2 ^ 64) (hF:F<2 ^ 64) (hTT:T<2 ^ 64) (hFT:F≤T) (an:Option Addr) (K cn:Nat) (l:List Int) (w:World) (hK:K<2 ^ 20) (hN:Flat w an K l):
    Calls Tryz.prog 70 #[.agg (RBOX S F T an K cn)] w fun e w'=>∃ v,e=.returned v∧w'.ownsRow w.heap.size 5 1 v (SWRT S F (T - F) l).length (z00 (SWRT S F (T - F) l))∧Below w.heap.size w w':=by
  have c1:=z5t S hS
  have c2:=z5t F hF
  have c3:=z5t (T - F) (by omega)
  have hl1:=z30 S
  have hl2:=z30 F
  have hl3:=z30 (T - F)
  have h91:=z6B S
  have h92:=z6B F
  have h93:=z6B (T - F)
  have hr1:=z3o hS
  have hr2:=z3o hF
  have hr3:=z3o (X:=T - F) (by omega)
  have eg:=zdf hFT hTT
  have eL:SWRT S F (T - F) l=[83] ++ z1c S ++ z1c F ++ z1c (T - F) ++ l:=by unfold SWRT;simp
  obtain ⟨Z,hZ⟩:∃ Z,SWRT S F (T - F) l=Z:=⟨_,rfl⟩
  rw [hZ]
  obtain ⟨NZ,hNZ⟩:∃ N,Z.length=N:=⟨_,rfl⟩
  rw [hNZ]
  obtain ⟨D,hD⟩:∃ D,T - F=D:=⟨_,rfl⟩
  rw [hD] at c3 hl3 h93 hr3 eg eL
  have hn1:0<NTOP S+1:=by omega
  have hn2:0<NTOP F+1:=by omega
  have hn3:0<NTOP D+1:=by omega
  have hm1:NTOP S+1≤10:=by omega
  have hm2:NTOP F+1≤10:=by omega
  have hm3:NTOP D+1≤10:=by omega
  generalize hSX:z1c S=SX at *
  generalize hSY:z1c F=SY at *
  generalize hSD:z1c D=SD at *
  clear h91 h92 h93 hSX hSY hSD
  generalize NTOP S+1=nx at *
  generalize NTOP F+1=ny at *
  generalize NTOP D+1=nd at *
  have HA:Aside (Flat w an K l∧K<2 ^ 20∧nx≤10∧ny≤10∧nd≤10∧(∀ x∈SX,0≤x∧x≤255)∧(∀ x∈SY,0≤x∧x≤255)∧(∀ x∈SD,0≤x∧x≤255)):=⟨hN,hK,hm1,hm2,hm3,hr1,hr2,hr3⟩
  have HL:Aside ([83] ++ SX ++ SY ++ SD ++ l=Z∧Z.length=NZ):=⟨by rw [← hZ,hD,eL],hNZ⟩
  have EG:Aside (IntKind.u64.wrap ((T:Int) - (F:Int))=(D:Int)):=eg
  clear hN hK hm1 hm2 hm3 hr1 hr2 hr3 hZ hNZ eL hl1 hl2 hl3 hS hF hTT hFT hD eg
  obtain ⟨w0,hw0⟩:∃ w0,w.alloc (.cells (RBOX S F T an K cn) 43)=w0:=⟨_,rfl⟩
  have h1:Has w0 w.heap.size (RBOX S F T an K cn) 43:=by rw [← hw0];exact Has.new w _ _
  have hb0:Below w.heap.size w w0:=by rw [← hw0];exact (Below.refl _ _).alloc (Nat.le_refl _) _
  have hM:(RBOX S F T an K cn)=#[.int .u64 (S:Int),.int .u64 (F:Int),.int .u64 (T:Int),.slice an K cn]:=rfl
  have CC:Aside (∀ W,Below w0.heap.size w0 W→W.cell? ⟨w.heap.size,0,none⟩=some (.int .u64 (S:Int))∧W.cell? ⟨w.heap.size,1,none⟩=some (.int .u64 (F:Int))∧W.cell? ⟨w.heap.size,2,none⟩=some (.int .u64 (T:Int))∧W.cell? ⟨w.heap.size,3,none⟩=some (.slice an K cn)):=fun W hb=>⟨(h1.keep hb).cell 0,(h1.keep hb).cell 1,(h1.keep hb).cell 2,(h1.keep hb).cell 3⟩
  have B0:Aside (Below w.heap.size w w0):=hb0
  rw [hM] at hw0
  have R0:Aside ((w0.alloc (.cells #[.int .u8 83] 5)).ownsRow w0.heap.size 5 1 (.slice (some ⟨w0.heap.size,0,none⟩) 1 1) 1 (z00 [83])∧Below w0.heap.size w0 (w0.alloc (.cells #[.int .u8 83] 5))):=⟨z6D w0 83,(Below.refl _ _).alloc (Nat.le_refl _) _⟩
  have x0:=(CC.out _ R0.out.2).1
  clear h1 hb0
  go_enter Tryz.func70,Tryz.ntmps70
  rw [hM]
  go_wp2_with fail
  generalize w0.alloc (.cells #[.int .u8 83] 5)=w1 at *
  refine (c1 _).mono ?_
  rintro e w2 ⟨g,cap,rfl,hown,hg,hb⟩
  clear c1 x0 hw0
  have R1:Aside (w2.ownsRow w0.heap.size 5 1 (.slice (some ⟨w0.heap.size,0,none⟩) 1 1) 1 (z00 [83])∧Below w0.heap.size w0 w2∧Bytes w2 (some ⟨g,0,none⟩) nx SX):=⟨z0b R0.out.1 hb,R0.out.2.trans (hb.mono R0.out.2.size),z1V hown hg HA.out.2.2.2.2.2.1⟩
  clear hown hg hb R0
  go_wp2_with (first
    | (at_builtin;refine z1b _ rfl (.tmp 7) (.tmp 10) rfl w0.heap.size _ 1 [83] rfl R1.out.1 g 0 nx cap SX rfl R1.out.2.2 hn1 (by have:=HA.out.2.2.1;omega) R1.out.2.1.size ?_;intro g3 cap3 w3 hown hgrow hg
       have R2:Aside (w3.ownsRow w0.heap.size 5 1 (.slice (some ⟨g3,0,none⟩) (1+nx) cap3) (1+nx) (z00 ([83] ++ SX))∧Below w0.heap.size w0 w3):=⟨hown,R1.out.2.1.grown hgrow R1.out.2.1.size (fun k e=>(R1.out.1.lt k e).1)⟩
       have x1:=(CC.out _ R2.out.2).2.1
       clear hown hgrow hg R1))
  refine (c2 _).mono ?_
  rintro e w4 ⟨g4,cap4,rfl,hown,hg,hb⟩
  clear c2 x1
  have R3:Aside (w4.ownsRow w0.heap.size 5 1 (.slice (some ⟨g3,0,none⟩) (1+nx) cap3) (1+nx) (z00 ([83] ++ SX))∧Below w0.heap.size w0 w4∧Bytes w4 (some ⟨g4,0,none⟩) ny SY):=⟨z0b R2.out.1 hb,R2.out.2.trans (hb.mono R2.out.2.size),z1V hown hg HA.out.2.2.2.2.2.2.1⟩
  clear hown hg hb R2
  go_wp2_with (first
    | (at_builtin;refine z1b _ rfl (.tmp 12) (.tmp 15) rfl w0.heap.size _ (1+nx) ([83] ++ SX) rfl R3.out.1 g4 0 ny cap4 SY rfl R3.out.2.2 hn2 (by have:=HA.out;omega) R3.out.2.1.size ?_;intro g5 cap5 w5 hown hgrow hg
       have R4:Aside (w5.ownsRow w0.heap.size 5 1 (.slice (some ⟨g5,0,none⟩) (1+nx+ny) cap5) (1+nx+ny) (z00 ([83] ++ SX ++ SY))∧Below w0.heap.size w0 w5):=⟨hown,R3.out.2.1.grown hgrow R3.out.2.1.size (fun k e=>(R3.out.1.lt k e).1)⟩
       have x1:=(CC.out _ R4.out.2).2.1
       have x2:=(CC.out _ R4.out.2).2.2.1
       have eg:=EG.out
       clear hown hgrow hg R3))
  refine (c3 _).mono ?_
  rintro e w6 ⟨g6,cap6,rfl,hown,hg,hb⟩
  clear c3 x1 x2 eg
  have R5:Aside (w6.ownsRow w0.heap.size 5 1 (.slice (some ⟨g5,0,none⟩) (1+nx+ny) cap5) (1+nx+ny) (z00 ([83] ++ SX ++ SY))∧Below w0.heap.size w0 w6∧Bytes w6 (some ⟨g6,0,none⟩) nd SD):=⟨z0b R4.out.1 hb,R4.out.2.trans (hb.mono R4.out.2.size),z1V hown hg HA.out.2.2.2.2.2.2.2⟩
  clear hown hg hb R4
  go_wp2_with (first
    | (at_builtin;refine z1b _ rfl (.tmp 17) (.tmp 23) rfl w0.heap.size _ (1+nx+ny) ([83] ++ SX ++ SY) rfl R5.out.1 g6 0 nd cap6 SD rfl R5.out.2.2 hn3 (by have:=HA.out;omega) R5.out.2.1.size ?_;intro g7 cap7 w7 hown hgrow hg
       have R6:Aside (w7.ownsRow w0.heap.size 5 1 (.slice (some ⟨g7,0,none⟩) (1+nx+ny+nd) cap7) (1+nx+ny+nd) (z00 ([83] ++ SX ++ SY ++ SD))∧Below w0.heap.size w0 w7):=⟨hown,R5.out.2.1.grown hgrow R5.out.2.1.size (fun k e=>(R5.out.1.lt k e).1)⟩
       have x3:=(CC.out _ R6.out.2).2.2.2
       clear hown hgrow hg R5))
  clear x3
  have HP:Aside (1+nx+ny+nd≤31):=by
    obtain ⟨_,_,h4,h5,h6,_⟩:=HA.out
    show 1+nx+ny+nd≤31
    omega
  generalize [83] ++ SX ++ SY ++ SD=PRE at *
  generalize 1+nx+ny+nd=np at *
  go_loopg [3,28] K (fun q s3 s28 wx=>∃ i:Nat,s28=.int .i64 (i:Int)∧Aside (i+q=K∧wx.ownsRow w0.heap.size 5 1 s3 (np+32*i) (z00 (PRE ++ l.take (32*i)))∧Below w0.heap.size w0 wx))
  case atStart=>exact ⟨0,rfl,by omega,by simpa using R6.out.1,R6.out.2⟩
  case round=>
    obtain ⟨i,rfl,A⟩:=hrel
    clear R6
    cases gk with
    | zero=>
      obtain ⟨hi,hown,hbel⟩:=A.out
      obtain rfl:i=K:=by omega
      have hlt:¬ (i:Int)<(i:Int):=by omega
      have R:Aside (wr.ownsRow w.heap.size 5 1 u3 NZ (z00 Z)∧Below w.heap.size w wr):=by
        rw [List.take_of_length_le (by have:=HA.out.1.1;omega),HL.out.1] at hown
        have:=zfL hown
        rw [HL.out.2] at this
        rw [← this] at hown
        exact ⟨z0s hown B0.out.size,B0.out.trans (hbel.mono B0.out.size)⟩
      clear hi hown hbel A HA HL HP CC B0
      go_wp2
      go_ret
      exact ⟨_,rfl,R.out.1,R.out.2⟩
    | succ q=>
      obtain ⟨hi,hown,hbel⟩:=A.out
      obtain ⟨a1,a2,_⟩:=HA.out
      have hlt:(i:Int)<(K:Int):=by omega
      have hbw:Below w.heap.size w wr:=B0.out.trans (hbel.mono B0.out.size)
      obtain ⟨b,o,rfl,hbl,hc⟩:=a1.2.1 (by omega)
      have hat:=(a1.below hbw).at (show i<K by omega)
      have h32:=z1s a1.1 (show i<K by omega)
      have hrr:∀ x∈HSH l i,0≤x∧x≤255:=fun x hx=>a1.2.2 x (zfK hx)
      have hnx:=z5w l i
      have e1:wrap64 ((i:Int)+1)=((i+1:Nat):Int):=by unfold wrap64;omega
      have R:Aside (i+1+q=K∧K<2 ^ 20∧np≤31∧wr.ownsRow w0.heap.size 5 1 u3 (np+32*i) (z00 (PRE ++ l.take (32*i)))∧Below w0.heap.size w0 wr∧(HSH l i).length=32∧(∀ x∈HSH l i,0≤x∧x≤255)∧PRE ++ l.take (32*(i+1))=PRE ++ l.take (32*i) ++ HSH l i):=⟨by omega,a2,HP.out,hown,hbel,h32,hrr,by rw [hnx,List.append_assoc]⟩
      generalize HSH l i=H at *
      clear hi hown hbel a1 a2 hbl hc hrr hnx A HA HL HP hbw CC B0
      go_wp2_with (first
        | (refine wpList_load_mid rfl 35 (.tmp 30) rfl b (o+i*32) rfl (z00 H) _ hat Tryz.underlying35 rfl (z0u h32) ?_)
        | (refine wpList_store_row rfl 35 (.tmp 5) (.tmp 31) rfl _ _ rfl rfl 35 _ (Has.new wr _ _) (z0V h32) (by simp [z00,h32]) (z1G H) ?_;rw [World.setRow_alloc_new])
        | (at_builtin;refine z1b _ rfl (.tmp 32) (.tmp 33) rfl w0.heap.size u3 (np+32*i) _ rfl (R.out.2.2.2.1.alloc _) wr.heap.size 0 32 32 H rfl (zcR wr R.out.2.2.2.2.2.1 R.out.2.2.2.2.2.2.1 _) (by omega) (by have:=R.out;omega) (by have:=R.out.2.2.2.2.1.size;simp;omega) ?_;intro g8 cap8 w8 hown hgrow hg))
      have R2:Aside (i+1+q=K∧w8.ownsRow w0.heap.size 5 1 (.slice (some ⟨g8,0,none⟩) (np+32*i+32) cap8) (np+32*(i+1)) (z00 (PRE ++ l.take (32*(i+1))))∧Below w0.heap.size w0 w8):=by
        obtain ⟨r1,r2,r3,r4,r5,r6,r7,r8⟩:=R.out
        refine ⟨r1,?_,(r5.alloc r5.size _).grown hgrow (by have:=r5.size;simp;omega) (fun k e=>(r4.lt k e).1)⟩
        rw [r8,show np+32*(i+1)=np+32*i+32 by omega]
        exact hown
      clear hown hgrow hg R hat h32
      go_wp2
      go_roundg q
      case measure=>omega
      case rel=>exact ⟨i+1,by first | rfl | (rw [e1]),R2.out⟩
def SWA (S F T K:Nat):Int:=if SPE F T S=0 then (if K=(SPP F T S).length then 0 else 70) else SPE F T S
set_option maxHeartbeats 1000000 in
theorem zdg (S F T:Nat) (an:Option Addr) (K cn:Nat) (w:World) (hT:Tabled w) (h0:0<w.heap.size):Calls Tryz.prog 68 #[.agg (RBOX S F T an K cn)] w fun e w'=>e=.returned (.int .i64 (SWA S F T K))∧Below w.heap.size w w':=by
  obtain ⟨w1,e1⟩:∃ w1,w.alloc (.cells (RBOX S F T an K cn) 43)=w1:=⟨_,rfl⟩
  have hb1:Below w.heap.size w w1:=by rw [← e1];exact (Below.refl _ _).alloc (Nat.le_refl _) _
  have hH:Has w1 w.heap.size (RBOX S F T an K cn) 43:=by rw [← e1];exact Has.new w _ _
  have cp:=z2w F T S w1 (hT.below h0 hb1) (by have:=hb1.size;omega)
  have hM:(RBOX S F T an K cn)=#[.int .u64 (S:Int),.int .u64 (F:Int),.int .u64 (T:Int),.slice an K cn]:=rfl
  have x0:w1.cell? ⟨w.heap.size,0,none⟩=some (.int .u64 (S:Int)):=hH.cell 0
  have x1:w1.cell? ⟨w.heap.size,1,none⟩=some (.int .u64 (F:Int)):=hH.cell 1
  have x2:w1.cell? ⟨w.heap.size,2,none⟩=some (.int .u64 (T:Int)):=hH.cell 2
  have CC:Aside (∀ W,Below w1.heap.size w1 W→Below w.heap.size w W∧W.cell? ⟨w.heap.size,3,none⟩=some (.slice an K cn)):=fun W hb=>⟨hb1.trans (hb.mono hb1.size),(hH.keep hb).cell 3⟩
  rw [hM] at e1
  obtain ⟨E,hE⟩:∃ E,SPE F T S=E:=⟨_,rfl⟩
  have HE:Aside (E=0→SPA F T S=SPP F T S):=fun h=>by unfold SPA;rw [if_pos (by rw [hE,h])]
  obtain ⟨P,hP⟩:∃ P,SPA F T S=P:=⟨_,rfl⟩
  obtain ⟨m,hm⟩:∃ m,P.length=m:=⟨_,rfl⟩
  have HR0:SWA S F T K=if E=0 then (if K=m then 0 else 70) else E:=by
    unfold SWA
    rw [hE]
    by_cases h:E=0
    · rw [if_pos h,if_pos h,← HE.out h,hP,hm]
    · rw [if_neg h,if_neg h]
  have HR:Aside (SWA S F T K=if E=0 then (if K=m then 0 else 70) else E):=HR0
  clear HR0
  obtain ⟨A,hA⟩:∃ A,SWA S F T K=A:=⟨_,rfl⟩
  rw [hE,hP] at cp
  rw [hA] at HR ⊢
  unfold z35 at cp
  rw [hm] at cp
  clear hE HE hP hm hA hb1 hH hT h0
  go_enter Tryz.func68,Tryz.ntmps68
  rw [hM]
  go_wp2_with fail
  refine cp.mono ?_
  rintro e w2 ⟨a2,c2,rfl,hown,hb⟩
  obtain ⟨hbw,x3⟩:=CC.out w2 hb
  have FN:Aside (Below w.heap.size w w2):=hbw
  clear cp hown hb hbw e1 CC x0 x1 x2
  by_cases hE:E=0
  · subst hE
    by_cases hk:K=m
    · subst hk
      have hA:0=A:=by have:=HR.out;simpa using this.symm
      have HAA:Aside ((0:Int)=A):=hA
      clear hA HR
      go_wp2
      go_ret
      exact ⟨by first | rfl | (rw [HAA.out];rfl) | (rw [← HAA.out];rfl),FN.out⟩
    · have hne:¬ (K:Int)=(m:Int):=by omega
      have hA:(70:Int)=A:=by have:=HR.out;simpa [hk] using this.symm
      have HAA:Aside ((70:Int)=A):=hA
      clear hA
      clear hk HR
      go_wp2
      go_ret
      exact ⟨by first | rfl | (rw [HAA.out];rfl) | (rw [← HAA.out];rfl),FN.out⟩
  · have hne:(E == 0)=false:=beq_eq_false_iff_ne.2 hE
    have hA:E=A:=by have:=HR.out;simpa [hE] using this.symm
    have HAA:Aside (E=A):=hA
    clear hA
    clear HR
    go_wp2
    go_ret
    exact ⟨by first | rfl | (rw [HAA.out];rfl) | (rw [← HAA.out];rfl),FN.out⟩
def SENC (S F T K:Nat) (l:List Int):Int × List Int:=if SWA S F T K=0 then (0,SWRT S F (T - F) l) else (SWA S F T K,[])
def zgY (w:World) (A:Int × List Int) (e:Ending) (w':World):Prop:=∃ a c,e=.returned (.tuple #[.slice a A.2.length c,.int .i64 A.1])∧w'.ownsRow w.heap.size 5 1 (.slice a A.2.length c) A.2.length (z00 A.2)∧Below w.heap.size w w'
theorem zgZ {S F T K:Nat} (h:SWA S F T K=0):S≤4611686018427387904∧F≤T∧T≤S∧K=(SPP F T S).length:=by
  unfold SWA at h
  rcases z3m F T S with ⟨e,_⟩ | ⟨e,_⟩ | ⟨e,_,h1,h2,h3⟩
  · rw [e] at h;simp at h
  · rw [e] at h;simp at h
  · rw [e] at h
    refine ⟨h1,h2,h3,?_⟩
    by_cases hk:K=(SPP F T S).length
    · exact hk
    · rw [if_pos rfl,if_neg hk] at h;cases h
theorem zdh (w:World) (B:Nat):w.ownsRow B 5 1 (.slice none ([]:List Int).length 0) ([]:List Int).length (z00 []):=⟨rfl,.inl ⟨rfl,rfl⟩⟩
theorem zf2 {w:World} {B s n:Nat} {t:TypeId} {v:Value} {xs:List Value} (h:w.ownsRow B t s v n xs):∃ a c,v=.slice a n c:=by
  rcases h.2 with ⟨e,h0⟩ | ⟨g,cap,cur,e,_⟩
  · exact ⟨none,0,by rw [e,h0]⟩
  · exact ⟨_,_,e⟩
set_option maxHeartbeats 1000000 in
theorem z7w (S F T:Nat) (an:Option Addr) (K cn:Nat) (l:List Int) (w:World) (hK:K<2 ^ 20) (hN:Flat w an K l) (hT:Tabled w) (h0:0<w.heap.size):Calls Tryz.prog 30 #[.agg (RBOX S F T an K cn)] w (zgY w (SENC S F T K l)):=by
  obtain ⟨w1,e1⟩:∃ w1,w.alloc (.cells (RBOX S F T an K cn) 43)=w1:=⟨_,rfl⟩
  have hb1:Below w.heap.size w w1:=by rw [← e1];exact (Below.refl _ _).alloc (Nat.le_refl _) _
  have hH:Has w1 w.heap.size (RBOX S F T an K cn) 43:=by rw [← e1];exact Has.new w _ _
  have cw:=zdg S F T an K cn w1 (hT.below h0 hb1) (by have:=hb1.size;omega)
  have hM:(RBOX S F T an K cn)=#[.int .u64 (S:Int),.int .u64 (F:Int),.int .u64 (T:Int),.slice an K cn]:=rfl
  have CC:Aside (∀ W,Below w1.heap.size w1 W→Below w.heap.size w W∧W.cell? ⟨w.heap.size,0,none⟩=some (.int .u64 (S:Int))∧W.cell? ⟨w.heap.size,1,none⟩=some (.int .u64 (F:Int))∧W.cell? ⟨w.heap.size,2,none⟩=some (.int .u64 (T:Int))∧W.cell? ⟨w.heap.size,3,none⟩=some (.slice an K cn)):=fun W hb=>⟨hb1.trans (hb.mono hb1.size),(hH.keep hb).cell 0,(hH.keep hb).cell 1,(hH.keep hb).cell 2,(hH.keep hb).cell 3⟩
  have CW:Aside (SWA S F T K=0→∀ W,Below w.heap.size w W→Calls Tryz.prog 70 #[.agg #[.int .u64 (S:Int),.int .u64 (F:Int),.int .u64 (T:Int),.slice an K cn]] W fun e w'=>∃ v,e=.returned v∧w'.ownsRow W.heap.size 5 1 v (SWRT S F (T - F) l).length (z00 (SWRT S F (T - F) l))∧Below W.heap.size W w'):=fun h W hb=>by
    obtain ⟨q1,q2,q3,_⟩:=zgZ h
    exact z9O S F T (by omega) (by omega) (by omega) q2 an K cn l W hK (hN.below hb)
  obtain ⟨x0,x1,x2,x3⟩:=(CC.out w1 (Below.refl _ _)).2
  have HR:Aside (SENC S F T K l=if SWA S F T K=0 then (0,SWRT S F (T - F) l) else (SWA S F T K,[])):=rfl
  rw [hM] at e1 cw
  generalize SENC S F T K l=A at *
  generalize SWA S F T K=E at *
  generalize SWRT S F (T - F) l=Z at *
  obtain ⟨nz,hnz⟩:∃ n,Z.length=n:=⟨_,rfl⟩
  have HZ:Aside (Z.length=nz):=hnz
  rw [hnz] at CW
  clear hb1 hH hT h0 hN hK hnz
  go_enter Tryz.func30,Tryz.ntmps30
  rw [hM]
  go_wp2_with fail
  refine cw.mono ?_
  rintro e w2 ⟨rfl,hb⟩
  clear cw x0 x1 x2 x3 e1
  obtain ⟨hbw,x0,x1,x2,x3⟩:=CC.out w2 hb
  have FN:Aside (Below w.heap.size w w2):=hbw
  clear hb hbw CC
  by_cases hE:E=0
  · subst hE
    have c2:=CW.out rfl w2 FN.out
    have HA:Aside (A=(0,Z)):=HR.out.trans (if_pos rfl)
    clear HR CW
    go_wp2_with fail
    refine c2.mono ?_
    rintro e w3 ⟨v,rfl,hown,hb⟩
    obtain ⟨a,c,rfl⟩:=zf2 hown
    have R:Aside (w3.ownsRow w.heap.size 5 1 (.slice a nz c) nz (z00 Z)∧Below w.heap.size w w3):=⟨z0s hown FN.out.size,FN.out.trans (hb.mono FN.out.size)⟩
    clear c2 hown hb FN x0 x1 x2 x3
    go_wp2_with fail
    go_ret2
    rw [HA.out]
    exact ⟨a,c,by show _=Ending.returned (.tuple #[.slice a Z.length c,.int .i64 0]);rw [HZ.out];rfl,by show w3.ownsRow w.heap.size 5 1 (.slice a Z.length c) Z.length (z00 Z);rw [HZ.out];exact R.out.1,R.out.2⟩
  · have hne:(E != 0)=true:=by simp [hE]
    have HA:Aside (A=(E,[])):=HR.out.trans (if_neg hE)
    clear HR CW hE
    go_wp2_with fail
    go_ret2
    rw [HA.out]
    exact ⟨none,0,rfl,zdh _ _,FN.out⟩
end Go.Proofs.YtnmalbngdhjhjaaGreatDoor

namespace Go.Proofs.YtnmalbngdhjhjaaGreatDoor
open Go.RowKit
set_option maxRecDepth 100000
set_option maxHeartbeats 1000000 in
theorem z21 (S F T:Nat) (x y:Option Addr) (m k cx cy:Nat) (l:List Int) (w:World) (hX:Flat w x m l) (hY:Flat w y k l) (hm:m≤1000000):
    Calls Tryz.prog 16 #[.agg #[.int .u64 (S:Int),.int .u64 (F:Int),.int .u64 (T:Int),.slice x m cx],.agg #[.int .u64 (S:Int),.int .u64 (F:Int),.int .u64 (T:Int),.slice y k cy]] w fun e w'=>e=.returned (.bool true)∧Below w.heap.size w w':=by
  obtain ⟨w1,e1⟩:∃ w1,w.alloc (.cells #[.int .u64 (S:Int),.int .u64 (F:Int),.int .u64 (T:Int),.slice x m cx] 43)=w1:=⟨_,rfl⟩
  obtain ⟨w2,e2⟩:∃ w2,w1.alloc (.cells #[.int .u64 (S:Int),.int .u64 (F:Int),.int .u64 (T:Int),.slice y k cy] 43)=w2:=⟨_,rfl⟩
  have hb2:Below w.heap.size w w2:=by rw [← e2,← e1];exact ((Below.refl _ _).alloc (Nat.le_refl _) _).alloc (by simp) _
  have h1:Has w2 w.heap.size #[.int .u64 (S:Int),.int .u64 (F:Int),.int .u64 (T:Int),.slice x m cx] 43:=by rw [← e2,← e1];exact (Has.new w _ _).alloc _
  have h2:Has w2 w1.heap.size #[.int .u64 (S:Int),.int .u64 (F:Int),.int .u64 (T:Int),.slice y k cy] 43:=by rw [← e2];exact Has.new w1 _ _
  have x0:=h1.cell 0
  have x1:=h1.cell 1
  have x2:=h1.cell 2
  have x3:=h1.cell 3
  have y0:=h2.cell 0
  have y1:=h2.cell 1
  have y2:=h2.cell 2
  have y3:=h2.cell 3
  have ch:=z7t x y m k cx cy l l w2 (hX.below hb2) (hY.below hb2) hm
  rw [decide_eq_true rfl] at ch
  have HB:Aside (Below w.heap.size w w2):=hb2
  clear hX hY hm hb2 h1 h2
  go_enter Tryz.func16,Tryz.ntmps16
  go_wp2_with fail
  refine ch.mono ?_
  rintro e w4 ⟨rfl,hb4⟩
  have B4:Aside (Below w.heap.size w w4):=HB.out.trans (hb4.mono HB.out.size)
  clear ch hb4 HB
  go_wp2_with fail
  go_ret
  exact ⟨rfl,B4.out⟩
end Go.Proofs.YtnmalbngdhjhjaaGreatDoor

namespace Go.Proofs.YtnmalbngdhjhjaaGreatDoor
open Go.RowKit
set_option maxRecDepth 100000
def HSV:List Int:=7 :: List.replicate 31 0
theorem zgc:(z00 HSV).toArray=#[.int .u8 7,.int .u8 0,.int .u8 0,.int .u8 0,.int .u8 0,.int .u8 0,.int .u8 0,.int .u8 0,.int .u8 0,.int .u8 0,.int .u8 0,.int .u8 0,.int .u8 0,.int .u8 0,.int .u8 0,.int .u8 0,.int .u8 0,.int .u8 0,.int .u8 0,.int .u8 0,.int .u8 0,.int .u8 0,.int .u8 0,.int .u8 0,.int .u8 0,.int .u8 0,.int .u8 0,.int .u8 0,.int .u8 0,.int .u8 0,.int .u8 0,.int .u8 0]:=rfl
theorem zdi:SPA 1 3 7=[0,4,9,10]:=by decide +kernel
theorem zdj:SPE 1 3 7=0:=by decide +kernel
theorem zbN:SENC 3 0 2 1 HSV=(0,83 :: 3 :: 0 :: 2 :: HSV):=by decide +kernel
theorem z6l {w:World} {B s n c:Nat} {t:TypeId} {a:Option Addr} {xs:List Value} (h:w.ownsRow B t s (.slice a n c) n xs) (hn:0<n):∃ g,a=some ⟨g,0,none⟩:=by
  rcases h.2 with ⟨e,h0⟩ | ⟨g,cap,cur,e,_⟩
  · omega
  · simp only [Value.slice.injEq] at e
    exact ⟨g,e.1⟩
theorem z8P (w:World):Flat (w.alloc (.cells (z00 HSV).toArray 35)) (some ⟨w.heap.size,0,none⟩) 1 HSV:=by
  refine ⟨rfl,fun _=>⟨w.heap.size,0,rfl,by simp,fun j hj=>?_⟩,by decide⟩
  rw [(Has.new w (z00 HSV).toArray 35).cell (0+j),Nat.zero_add,List.getElem?_toArray]
  exact z0t HSV j hj
set_option maxHeartbeats 2000000 in
theorem z4c (w:World) (hT:Tabled w) (h0:0<w.heap.size):Calls Tryz.prog 19 #[] w fun e w'=>e=.returned (.bool true)∧Below w.heap.size w w':=by
  have cp:=z2w 1 3 7 w hT h0
  rw [zdi,zdj] at cp
  have B1:Aside (Tabled w∧0<w.heap.size):=⟨hT,h0⟩
  clear hT h0
  go_enter Tryz.func19,Tryz.ntmps19
  go_wp2_with fail
  refine cp.mono ?_
  rintro e w2 ⟨a2,c2,rfl,hown2,hb2⟩
  clear cp
  have R2:Aside (w2.ownsRow w.heap.size 24 1 (.slice a2 4 c2) 4 (z0k [0,4,9,10])∧Below w.heap.size w w2):=⟨hown2,hb2⟩
  clear hown2 hb2
  obtain ⟨w4,e4⟩:∃ w4,w2.alloc (.cells (z00 HSV).toArray 35)=w4:=⟨_,rfl⟩
  have hb4:Below w2.heap.size w2 w4:=by rw [← e4];exact (Below.refl _ _).alloc (Nat.le_refl _) _
  have hbw4:Below w.heap.size w w4:=R2.out.2.trans (hb4.mono R2.out.2.size)
  have hF4:Flat w4 (some ⟨w2.heap.size,0,none⟩) 1 HSV:=by rw [← e4];exact z8P w2
  have ce:=z7w 3 0 2 (some ⟨w2.heap.size,0,none⟩) 1 1 HSV w4 (by decide) hF4 (B1.out.1.below B1.out.2 hbw4) (by have:=B1.out.2;have:=hbw4.size;omega)
  rw [zbN] at ce
  rw [zgc] at e4
  have hM:RBOX 3 0 2 (some ⟨w2.heap.size,0,none⟩) 1 1=#[.int .u64 3,.int .u64 0,.int .u64 2,.slice (some ⟨w2.heap.size,0,none⟩) 1 1]:=rfl
  rw [hM] at ce
  have R4:Aside (w4.ownsRow w.heap.size 24 1 (.slice a2 4 c2) 4 (z0k [0,4,9,10])∧Below w.heap.size w w4):=⟨z0b R2.out.1 hb4,hbw4⟩
  clear hM hb4 hbw4 hF4 R2 B1
  go_wp2_with fail
  refine ce.mono ?_
  rintro e w5 ⟨a5,c5,rfl,hown5,hb5⟩
  clear ce e4
  have o2:=z0b R4.out.1 hb5
  obtain ⟨g2,rfl⟩:=z6l o2 (by decide)
  obtain ⟨g5,rfl⟩:=z6l hown5 (by decide)
  have y0:w5.cell? ⟨g2,0,none⟩=some (.int .u64 0):=o2.cellAt 0 (by decide)
  have y1:w5.cell? ⟨g2,1,none⟩=some (.int .u64 4):=o2.cellAt 1 (by decide)
  have y2:w5.cell? ⟨g2,2,none⟩=some (.int .u64 9):=o2.cellAt 2 (by decide)
  have z0:w5.cell? ⟨g5,0,none⟩=some (.int .u8 83):=hown5.cellAt 0 (by decide)
  have z3:w5.cell? ⟨g5,3,none⟩=some (.int .u8 2):=hown5.cellAt 3 (by decide)
  have z4:w5.cell? ⟨g5,4,none⟩=some (.int .u8 7):=hown5.cellAt 4 (by decide)
  have FN:Aside (Below w.heap.size w w5):=R4.out.2.trans (hb5.mono R4.out.2.size)
  have hlen:(83 :: 3 :: 0 :: 2 :: HSV).length=36:=rfl
  rw [hlen]
  clear o2 hown5 hb5 R4
  go_wp2_with fail
  go_ret
  exact ⟨rfl,FN.out⟩
end Go.Proofs.YtnmalbngdhjhjaaGreatDoor

namespace Go.Proofs.YtnmalbngdhjhjaaGreatDoor
open Go.RowKit
set_option maxRecDepth 100000
structure DPAIR (t:TypeId) (z:Nat) (w0 w:World) (B:Nat) (a:Value) (na:Nat) (xa:List Value) (b:Value) (nb:Nat) (xb:List Value):Prop where
  ra:w.ownsRow B t z a na xa
  rb:w.ownsRow B t z b nb xb
  ap:∀ g,a.ownBlock=some g→b.ownBlock≠some g
  bl:Below B w0 w
  bs:B≤w0.heap.size
section
variable {t:TypeId} {z:Nat} {w0 w:World} {B:Nat} {a:Value} {na:Nat} {xa:List Value} {b:Value} {nb:Nat} {xb:List Value}
theorem DPAIR.step {w':World} (h:DPAIR t z w0 w B a na xa b nb xb) {a':Value} {na':Nat} {xa':List Value} (hown:w'.ownsRow B t z a' na' xa') (hg:w.grownBy w' a.ownBlock) (hat:∀ g,a'.ownBlock=some g→a.ownBlock=some g∨w.heap.size≤g):DPAIR t z w0 w' B a' na' xa' b nb xb:=by
  refine ⟨hown,z20 h.rb hg h.ap,fun g e1 e2=>?_,h.bl.grown hg (Nat.le_trans h.bs h.bl.size) (fun k e=>(h.ra.lt k e).1),h.bs⟩
  rcases hat g e1 with h1 | h1
  · exact h.ap g h1 e2
  · have:=(h.rb.lt g e2).2
    omega
theorem DPAIR.alloc (h:DPAIR t z w0 w B a na xa b nb xb) (o:Obj):DPAIR t z w0 (w.alloc o) B a na xa b nb xb:=⟨z1f h.ra o,z1f h.rb o,h.ap,h.bl.alloc (Nat.le_trans h.bs h.bl.size) o,h.bs⟩
end
end Go.Proofs.YtnmalbngdhjhjaaGreatDoor

namespace Go.Proofs.YtnmalbngdhjhjaaGreatDoor
open Go.RowKit
set_option maxRecDepth 100000
end Go.Proofs.YtnmalbngdhjhjaaGreatDoor

namespace Go.Proofs.YtnmalbngdhjhjaaGreatDoor
open Go.RowKit
set_option maxRecDepth 100000
end Go.Proofs.YtnmalbngdhjhjaaGreatDoor

namespace Go.Proofs.YtnmalbngdhjhjaaGreatDoor
open Go.RowKit
set_option maxRecDepth 100000
end Go.Proofs.YtnmalbngdhjhjaaGreatDoor

namespace Go.Proofs.YtnmalbngdhjhjaaGreatDoor
open Go.RowKit
set_option maxRecDepth 100000
end Go.Proofs.YtnmalbngdhjhjaaGreatDoor

namespace Go.Proofs.YtnmalbngdhjhjaaGreatDoor
open Go.RowKit
set_option maxRecDepth 100000
def zh0 (v:Value) (X Y:Nat) (nv:Value):Array Value:=#[v,.int .u64 (X:Int),.int .u64 (Y:Int),nv]
structure FRM (w0 w:World) (rb gl:Nat) (t:TypeId) (v:Value) (X Y:Nat) (nv:Value) (fl:Array Value) (tf:TypeId):Prop where
  bel:Below w0.heap.size w0 w
  rd:Has w rb (zh0 v X Y nv) t
  fl:Has w gl fl tf
  ne:gl≠rb
  lb:w0.heap.size≤rb
  lg:w0.heap.size≤gl
def SRC (w0:World) (a:Option Addr) (c:Nat) (t:List Int):Prop:=Bytes w0 a t.length t∧t.length≤c∧t.length≤1000000
theorem FRM.drew {w0 w:World} {rb gl:Nat} {t:TypeId} {v:Value} {X Y:Nat} {nv:Value} {fl:Array Value} {tf:TypeId} (h:FRM w0 w rb gl t v X Y nv fl tf):FRM w0 w.drew rb gl t v X Y nv fl tf:=⟨h.bel.drew,h.rd,h.fl,h.ne,h.lb,h.lg⟩
theorem FRM.keep {w0 w w':World} {rb gl:Nat} {t:TypeId} {v:Value} {X Y:Nat} {nv:Value} {fl:Array Value} {tf:TypeId} (h:FRM w0 w rb gl t v X Y nv fl tf) (hb:Below w.heap.size w w'):FRM w0 w' rb gl t v X Y nv fl tf:=⟨h.bel.trans (hb.mono h.bel.size),h.rd.keep hb,h.fl.keep hb,h.ne,h.lb,h.lg⟩
theorem FRM.rest {w0 w:World} {rb gl:Nat} {t:TypeId} {v:Value} {X Y:Nat} {nv:Value} {fl:Array Value} {tf:TypeId} (h:FRM w0 w rb gl t v X Y nv fl tf) (v':Value):FRM w0 (w.setCell ⟨rb,0,none⟩ v') rb gl t v' X Y nv fl tf:=
  ⟨h.bel.setCell (p:=⟨rb,0,none⟩) h.lb _,h.rd.set 0 v',h.fl.other (a:=⟨rb,0,none⟩) h.ne _,h.ne,h.lb,h.lg⟩
theorem FRM.nodes {w0 w:World} {rb gl:Nat} {t:TypeId} {v:Value} {X Y:Nat} {nv:Value} {fl:Array Value} {tf:TypeId} (h:FRM w0 w rb gl t v X Y nv fl tf) (nv':Value):FRM w0 (w.setCell ⟨rb,3,none⟩ nv') rb gl t v X Y nv' fl tf:=
  ⟨h.bel.setCell (p:=⟨rb,3,none⟩) h.lb _,h.rd.set 3 _,h.fl.other (a:=⟨rb,3,none⟩) h.ne _,h.ne,h.lb,h.lg⟩
theorem SRC.drop {w0:World} {b off c:Nat} {t:List Int} (h:SRC w0 (some ⟨b,off,none⟩) c t) (k:Nat) (hk:k≤t.length):SRC w0 (REST b off c k) (c - k) (t.drop k):=by
  obtain ⟨h1,h2,h3⟩:=h
  have:=h1.behind k hk h2
  refine ⟨?_,by rw [List.length_drop];omega,by rw [List.length_drop];omega⟩
  rw [List.length_drop]
  exact this
end Go.Proofs.YtnmalbngdhjhjaaGreatDoor

namespace Go.Proofs.YtnmalbngdhjhjaaGreatDoor
open Go.RowKit
set_option maxRecDepth 100000
end Go.Proofs.YtnmalbngdhjhjaaGreatDoor

namespace Go.Proofs.YtnmalbngdhjhjaaGreatDoor
open Go.RowKit
set_option maxRecDepth 100000
def DECD (w:World) (D:DANS) (e:Ending) (w':World):Prop:=
  ∃ v,e=.returned (.tuple #[v,.int .i64 D.1])∧Below w.heap.size w w'∧((D.1≠0∧v=.agg #[.int .u64 0,.int .u64 0,.slice none 0 0])∨(D.1=0∧D.2.1<2 ^ 64∧D.2.2.1<2 ^ 64∧D.2.2.2.2.length=32*D.2.2.2.1∧(∀ x∈D.2.2.2.2,0≤x∧x≤255)∧∃ g,v=.agg #[.int .u64 (D.2.1:Int),.int .u64 (D.2.2.1:Int),.slice (some ⟨g,0,none⟩) D.2.2.2.1 D.2.2.2.1]∧w.heap.size≤g∧Has w' g (z00 D.2.2.2.2).toArray 35))
end Go.Proofs.YtnmalbngdhjhjaaGreatDoor

namespace Go.Proofs.YtnmalbngdhjhjaaGreatDoor
open Go.RowKit
set_option maxRecDepth 100000
theorem zgd (PF:Nat→Nat→Int × List Nat) (X Y:Nat) (t:List Int):DC3 PF X Y t=DERR (DC3 PF X Y t).1∨(DC3 PF X Y t).1=0:=by
  unfold DC3
  split
  · exact .inl rfl
  · split
    · exact .inl rfl
    · split
      · exact .inl rfl
      · exact .inr rfl
theorem zge (PF:Nat→Nat→Int × List Nat) (X:Nat) (t:List Int):DC2 PF X t=DERR (DC2 PF X t).1∨(DC2 PF X t).1=0:=by
  unfold DC2
  split
  · exact .inl rfl
  · exact zgd _ _ _ _
theorem zgf (chk:Nat→Bool) (PF:Nat→Nat→Int × List Nat) (t:List Int):DC1 chk PF t=DERR (DC1 chk PF t).1∨(DC1 chk PF t).1=0:=by
  unfold DC1
  split
  · exact .inl rfl
  · split
    · exact .inl rfl
    · exact zge _ _ _
theorem zgg {K:Int} {chk:Nat→Bool} {PF:Nat→Nat→Int × List Nat} {l:List Int} (h:(DC0 K chk PF l).1≠0):DC0 K chk PF l=DERR (DC0 K chk PF l).1:=by
  have:DC0 K chk PF l=DERR (DC0 K chk PF l).1∨(DC0 K chk PF l).1=0:=by
    unfold DC0
    split
    · exact .inl rfl
    · split
      · exact .inl rfl
      · exact zgf _ _ _
  rcases this with h1 | h1
  · exact h1
  · exact absurd h1 h
theorem zbO {w:World} {B g N:Nat} {l:List Int} (h:Has w g (z00 l).toArray 35) (hl:l.length=32*N) (hB:B≤g) (hN:N≤1000):w.ownsRow B 35 32 (.slice (some ⟨g,0,none⟩) N N) N (z00 l):=by
  refine ⟨by rw [z00,List.length_map,hl,Nat.mul_comm],.inr ⟨g,N,_,rfl,hB,h,Nat.le_refl _,by simp [maxLen];omega,?_,?_⟩⟩
  · simp [z00,hl,Nat.mul_comm]
  · rw [List.take_of_length_le (by simp [z00,hl];omega)]
def DECO (w:World) (D:DANS) (e:Ending) (w':World):Prop:=
  ∃ a c,e=.returned (.tuple #[.agg #[.int .u64 (D.2.1:Int),.int .u64 (D.2.2.1:Int),.slice a D.2.2.2.1 c],.int .i64 D.1])∧w'.ownsRow w.heap.size 35 32 (.slice a D.2.2.2.1 c) D.2.2.2.1 (z00 D.2.2.2.2)∧(∀ x∈D.2.2.2.2,0≤x∧x≤255)∧Below w.heap.size w w'
theorem DECD.own {w w':World} {K:Int} {chk:Nat→Bool} {PF:Nat→Nat→Int × List Nat} {l:List Int} {e:Ending} (h:DECD w (DC0 K chk PF l) e w') (hf:(DC0 K chk PF l).1=0→(DC0 K chk PF l).2.2.2.1≤1000):DECO w (DC0 K chk PF l) e w':=by
  obtain ⟨v,rfl,hb,h⟩:=h
  rcases h with ⟨hE,rfl⟩ | ⟨hE,h1,h2,h3,h4,g,rfl,hg,hh⟩
  · have hD:=zgg hE
    rw [hD]
    refine ⟨none,0,rfl,World.ownsRow_nil _ _ _ _,by simp [DERR],hb⟩
  · exact ⟨_,_,rfl,zbO hh h3 hg (hf hE),h4,hb⟩
structure FAM (M:Nat) (t:TypeId) (s:Nat) (w:World) (B:Nat) (K:Nat→Prop) (v:Nat→Value) (n:Nat→Nat) (xs:Nat→List Value):Prop where
  row:∀ x,x<M→w.ownsRow B t s (v x) (n x) (xs x)
  apart:∀ x y,x<M→y<M→x≠y→∀ g,(v x).ownBlock=some g→(v y).ownBlock≠some g
  off:∀ x,x<M→∀ g,(v x).ownBlock=some g→¬ K g
theorem FAM.below {M:Nat} {t:TypeId} {s:Nat} {w w':World} {B:Nat} {K:Nat→Prop} {v:Nat→Value} {n:Nat→Nat} {xs:Nat→List Value} (h:FAM M t s w B K v n xs) (hb:Below w.heap.size w w'):FAM M t s w' B K v n xs:=⟨fun x hx=>z0b (h.row x hx) hb,h.apart,h.off⟩
theorem FAM.heap {M:Nat} {t:TypeId} {s:Nat} {w w':World} {B:Nat} {K:Nat→Prop} {v:Nat→Value} {n:Nat→Nat} {xs:Nat→List Value} (h:FAM M t s w B K v n xs) (hk:∀ k,k<w.heap.size→¬ K k→w'.heap[k]?=w.heap[k]?):FAM M t s w' B K v n xs:=⟨fun x hx=>z8n (h.row x hx) fun k e=>hk k ((h.row x hx).lt k e).2 (h.off x hx k e),h.apart,h.off⟩
theorem FAM.turn {M:Nat} {t:TypeId} {s:Nat} {w w':World} {B:Nat} {K:Nat→Prop} {v:Nat→Value} {n:Nat→Nat} {xs:Nat→List Value} (h:FAM M t s w B K v n xs) {x g m c:Nat} {ys:List Value} (hx:x<M) (hK:∀ k,K k→k<w.heap.size)
    (hown:w'.ownsRow B t s (.slice (some ⟨g,0,none⟩) m c) m ys) (hg:w.grownBy w' (v x).ownBlock) (hat:(v x).ownBlock=some g∨w.heap.size≤g):FAM M t s w' B K (UPD v x (.slice (some ⟨g,0,none⟩) m c)) (UPD n x m) (UPD xs x ys)∧∀ k,K k→w'.heap[k]?=w.heap[k]?:=by
  have hgx:∀ y,y<M→y≠x→(v y).ownBlock≠some g:=fun y hy hne e=>by
    rcases hat with h1 | h1
    · exact h.apart x y hx hy (fun e=>hne e.symm) g h1 e
    · have:=((h.row y hy).lt g e).2
      omega
  refine ⟨⟨fun y hy=>?_,fun y z hy hz hne k e=>?_,fun y hy k e hk=>?_⟩,fun k hk=>hg.block k (hK k hk) fun e=>h.off x hx k e.symm hk⟩
  · by_cases e:y=x
    · subst e
      rw [z32,z32,z32]
      exact hown
    · rw [z1n _ _ e,z1n _ _ e,z1n _ _ e]
      exact z8n (h.row y hy) fun k hk=>hg.block k ((h.row y hy).lt k hk).2 fun e2=>h.apart x y hx hy (fun e3=>e e3.symm) k e2.symm hk
  · by_cases e1:y=x
    · subst e1
      rw [z32] at e
      have e:g=k:=by simpa [Value.ownBlock] using e
      subst e
      rw [z1n _ _ (fun e2=>hne e2.symm)]
      exact hgx z hz fun e2=>hne e2.symm
    · rw [z1n _ _ e1] at e
      by_cases e2:z=x
      · subst e2
        rw [z32]
        intro e3
        have e3:g=k:=by simpa [Value.ownBlock] using e3
        subst e3
        exact hgx y hy e1 e
      · rw [z1n _ _ e2]
        exact h.apart y z hy hz hne k e
  · by_cases e1:y=x
    · subst e1
      rw [z32] at e
      have e:g=k:=by simpa [Value.ownBlock] using e
      subst e
      rcases hat with h1 | h1
      · exact h.off y hy g h1 hk
      · have:=hK g hk
        omega
    · rw [z1n _ _ e1] at e
      exact h.off y hy k e hk
end Go.Proofs.YtnmalbngdhjhjaaGreatDoor

namespace Go.Proofs.YtnmalbngdhjhjaaGreatDoor
open Go.RowKit
set_option maxRecDepth 100000
end Go.Proofs.YtnmalbngdhjhjaaGreatDoor

namespace Go.Proofs.YtnmalbngdhjhjaaGreatDoor
open Go.RowKit
set_option maxRecDepth 100000
end Go.Proofs.YtnmalbngdhjhjaaGreatDoor

namespace Go.Proofs.YtnmalbngdhjhjaaGreatDoor
open Go.RowKit
end Go.Proofs.YtnmalbngdhjhjaaGreatDoor

namespace Go.Proofs.YtnmalbngdhjhjaaGreatDoor
open Go.RowKit
set_option maxRecDepth 100000
end Go.Proofs.YtnmalbngdhjhjaaGreatDoor

namespace Go.Proofs.YtnmalbngdhjhjaaGreatDoor
open Go.RowKit
set_option maxRecDepth 100000
end Go.Proofs.YtnmalbngdhjhjaaGreatDoor

namespace Go.Proofs.YtnmalbngdhjhjaaGreatDoor
open Go.RowKit
set_option maxRecDepth 100000
end Go.Proofs.YtnmalbngdhjhjaaGreatDoor
