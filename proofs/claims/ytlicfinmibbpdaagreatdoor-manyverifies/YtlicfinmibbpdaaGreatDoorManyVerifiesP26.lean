/- Texts of ManyVerifies, one behind the other: ManyWritten, ManyWhole, ManyFaceE, ManyEncode. -/
import Derived.Test.YtlicfinmibbpdaaGreatDoorManyVerifiesP25
namespace Go.Proofs.YtlicfinmibbpdaaGreatDoor
open Go.RowKit
set_option maxRecDepth 100000
def DIFS:Nat→List Nat→List Int
  | _,[]=>[]
  | k,x :: l=>z0m (x - k) ++ DIFS (x+1) l
def MWRT (L:List Nat) (N:Nat) (l:List Int):List Int:=78 :: (z0m N ++ z0m L.length ++ DIFS 0 L ++ l)
def LSX (L:List Nat) (j:Nat):Nat:=match AHD L j with | none=>0 | some y=>y+1
theorem z7Q (L:List Nat):LSX L 0=0:=rfl
theorem z3T {L:List Nat} {j x:Nat} (h:L[j]?=some x):LSX L (j+1)=x+1:=by
  unfold LSX
  rw [show AHD L (j+1)=some x from h]
theorem zfa {L:List Nat} (hR:RISES L) {j x:Nat} (h:L[j]?=some x):LSX L j≤x:=by
  cases j with
  | zero=>exact Nat.zero_le _
  | succ i=>
    have hi:i<L.length:=by have:=(List.getElem?_eq_some_iff.1 h).1;omega
    have e:=List.getElem?_eq_getElem hi
    rw [z3T e]
    exact hR i (i+1) _ _ (by omega) e h
def MBOX (N:Nat) (a:Option Addr) (m c:Nat) (an:Option Addr) (K cn:Nat):Array Value:=#[.int .u64 (N:Int),.slice a m c,.slice an K cn]
theorem zev {x k:Nat} (h:k≤x) (hx:x<2 ^ 64):IntKind.u64.wrap ((x:Int) - (k:Int))=((x - k:Nat):Int):=by
  rw [z09];omega
theorem zfb {x:Nat} (hx:x<2 ^ 63):IntKind.u64.wrap ((x:Int)+1)=((x+1:Nat):Int):=by
  rw [z09];omega
theorem z9v {x:Nat} (hx:x<2 ^ 63):IntKind.u64.wrap (x:Int)=(x:Int):=by
  rw [z09];omega
set_option maxHeartbeats 2000000 in
theorem z67 (L:List Nat) (N:Nat) (hN:N<2 ^ 64) (a:Option Addr) (m c:Nat) (an:Option Addr) (K cn:Nat) (l:List Int) (w:World) (hl:L.length=m) (hm:m<2 ^ 20) (hK:K<2 ^ 20) (hR:RISES L) (hx:∀ x∈L,x<2 ^ 62) (hL:NUML w a L) (hF:Flat w an K l):
    Calls Tryz.prog 51 #[.agg (MBOX N a m c an K cn)] w fun e w'=>∃ v,e=.returned v∧w'.ownsRow w.heap.size 5 1 v (MWRT L N l).length (z00 (MWRT L N l))∧Below w.heap.size w w':=by
  have c1:=z59 N hN
  have c2:=z59 m (by omega)
  have hl1:=z0O N
  have hl2:=z0O m
  have h91:=z2j N
  have h92:=z2j m
  have hr1:=z1m hN
  have hr2:=z1m (X:=m) (by omega)
  have eL:MWRT L N l=[78] ++ z0m N ++ z0m m ++ DIFS 0 L ++ l:=by unfold MWRT;rw [hl];simp
  obtain ⟨Z,hZ⟩:∃ Z,MWRT L N l=Z:=⟨_,rfl⟩
  rw [hZ]
  obtain ⟨NZ,hNZ⟩:∃ N,Z.length=N:=⟨_,rfl⟩
  rw [hNZ]
  generalize hSX:z0m N=SX at *
  generalize hSY:z0m m=SY at *
  have hn1:0<NTOP N+1:=by omega
  have hn2:0<NTOP m+1:=by omega
  have hm1:NTOP N+1≤10:=by omega
  have hm2:NTOP m+1≤10:=by omega
  clear h91 h92 hSX hSY
  generalize NTOP N+1=nx at *
  generalize NTOP m+1=ny at *
  have HA:Aside (Flat w an K l∧K<2 ^ 20∧SX.length=nx∧SY.length=ny∧nx≤10∧ny≤10∧(∀ x∈SX,0≤x∧x≤255)∧(∀ x∈SY,0≤x∧x≤255)):=⟨hF,hK,hl1,hl2,hm1,hm2,hr1,hr2⟩
  have HL:Aside ([78] ++ SX ++ SY ++ DIFS 0 L ++ l=Z∧Z.length=NZ):=⟨by rw [← hZ,eL],hNZ⟩
  have HI:Aside (L.length=m∧m<2 ^ 20∧RISES L∧(∀ x∈L,x<2 ^ 62)∧NUML w a L):=⟨hl,hm,hR,hx,hL⟩
  have eum:=z9v (x:=m) (by omega)
  clear hF hK hl1 hl2 hm1 hm2 hr1 hr2 hZ hNZ hN eL hl hm hR hx hL
  obtain ⟨w0,hw0⟩:∃ w0,w.alloc (.cells (MBOX N a m c an K cn) 26)=w0:=⟨_,rfl⟩
  have h1:Has w0 w.heap.size (MBOX N a m c an K cn) 26:=by rw [← hw0];exact Has.new w _ _
  have hb0:Below w.heap.size w w0:=by rw [← hw0];exact (Below.refl _ _).alloc (Nat.le_refl _) _
  have hM:(MBOX N a m c an K cn)=#[.int .u64 (N:Int),.slice a m c,.slice an K cn]:=rfl
  have CC:Aside (∀ W,Below w0.heap.size w0 W→W.cell? ⟨w.heap.size,0,none⟩=some (.int .u64 (N:Int))∧W.cell? ⟨w.heap.size,1,none⟩=some (.slice a m c)∧W.cell? ⟨w.heap.size,2,none⟩=some (.slice an K cn)):=fun W hb=>⟨(h1.keep hb).cell 0,(h1.keep hb).cell 1,(h1.keep hb).cell 2⟩
  have B0:Aside (Below w.heap.size w w0):=hb0
  rw [hM] at hw0
  have R0:Aside ((w0.alloc (.cells #[.int .u8 78] 5)).ownsRow w0.heap.size 5 1 (.slice (some ⟨w0.heap.size,0,none⟩) 1 1) 1 (z00 [78])∧Below w0.heap.size w0 (w0.alloc (.cells #[.int .u8 78] 5))):=⟨z4u w0 78,(Below.refl _ _).alloc (Nat.le_refl _) _⟩
  have x0:=(CC.out _ R0.out.2).1
  clear h1 hb0
  go_enter Tryz.func51,Tryz.ntmps51
  rw [hM]
  go_wp2_with fail
  generalize w0.alloc (.cells #[.int .u8 78] 5)=w1 at *
  refine (c1 _).mono ?_
  rintro e w2 ⟨g,cap,rfl,hown,hg,hb⟩
  clear c1 x0 hw0
  have R1:Aside (w2.ownsRow w0.heap.size 5 1 (.slice (some ⟨w0.heap.size,0,none⟩) 1 1) 1 (z00 [78])∧Below w0.heap.size w0 w2∧Bytes w2 (some ⟨g,0,none⟩) nx SX):=⟨z0o R0.out.1 hb,R0.out.2.trans (hb.mono R0.out.2.size),z0W hown hg HA.out.2.2.2.2.2.2.1⟩
  clear hown hg hb R0
  go_wp2_with (first
    | (at_builtin;refine z0A _ rfl (.tmp 10) (.tmp 13) rfl w0.heap.size _ 1 [78] rfl R1.out.1 g 0 nx cap SX rfl R1.out.2.2 hn1 (by have:=HA.out.2.2.2.2.1;omega) R1.out.2.1.size ?_;intro g3 cap3 w3 hown hgrow hg
       have R2:Aside (w3.ownsRow w0.heap.size 5 1 (.slice (some ⟨g3,0,none⟩) (1+nx) cap3) (1+nx) (z00 ([78] ++ SX))∧Below w0.heap.size w0 w3):=⟨hown,R1.out.2.1.grown hgrow R1.out.2.1.size (fun k e=>(R1.out.1.lt k e).1)⟩
       have x1:=(CC.out _ R2.out.2).2.1
       clear hown hgrow hg R1))
  refine (c2 _).mono ?_
  rintro e w4 ⟨g4,cap4,rfl,hown,hg,hb⟩
  clear c2 x1 eum
  have R3:Aside (w4.ownsRow w0.heap.size 5 1 (.slice (some ⟨g3,0,none⟩) (1+nx) cap3) (1+nx) (z00 ([78] ++ SX))∧Below w0.heap.size w0 w4∧Bytes w4 (some ⟨g4,0,none⟩) ny SY):=⟨z0o R2.out.1 hb,R2.out.2.trans (hb.mono R2.out.2.size),z0W hown hg HA.out.2.2.2.2.2.2.2⟩
  clear hown hg hb R2
  go_wp2_with (first
    | (at_builtin;refine z0A _ rfl (.tmp 15) (.tmp 20) rfl w0.heap.size _ (1+nx) ([78] ++ SX) rfl R3.out.1 g4 0 ny cap4 SY rfl R3.out.2.2 hn2 (by have:=HA.out.2.2.2.2;omega) R3.out.2.1.size ?_;intro g5 cap5 w5 hown hgrow hg
       have R4:Aside (w5.ownsRow w0.heap.size 5 1 (.slice (some ⟨g5,0,none⟩) (1+nx+ny) cap5) (1+nx+ny) (z00 ([78] ++ SX ++ SY))∧Below w0.heap.size w0 w5):=⟨hown,R3.out.2.1.grown hgrow R3.out.2.1.size (fun k e=>(R3.out.1.lt k e).1)⟩
       have x1:=(CC.out _ R4.out.2).2.1
       clear hown hgrow hg R3))
  clear x1
  have HP:Aside (1+nx+ny≤21):=by
    obtain ⟨_,_,_,_,h5,h6,_⟩:=HA.out
    show 1+nx+ny≤21
    omega
  generalize [78] ++ SX ++ SY=PRE at *
  generalize 1+nx+ny=np at *
  go_loopg [3,4,25] m (fun q s3 s4 s25 wx=>∃ (j k np':Nat) (v:Value) (pre:List Int),v=s3∧s4=.int .u64 (k:Int)∧s25=.int .i64 (j:Int)∧Aside (j+q=m∧k=LSX L j∧wx.ownsRow w0.heap.size 5 1 v np' (z00 (PRE ++ pre))∧pre ++ DIFS k (L.drop j)=DIFS 0 L∧np'≤21+10*j∧Below w0.heap.size w0 wx))
  case atStart=>exact ⟨0,0,np,_,[],rfl,rfl,rfl,by omega,rfl,by simpa using R4.out.1,by simp,HP.out,R4.out.2⟩
  case round=>
    obtain ⟨j,k,np',v,pre,rfl,rfl,rfl,A⟩:=hrel
    clear R4 HP
    cases gk with
    | succ q=>
      have hjm:j<m:=by have:=A.out.1;omega
      have hlt:(j:Int)<(m:Int):=by omega
      obtain ⟨x,ex⟩:∃ x,L[j]?=some x:=⟨_,List.getElem?_eq_getElem (by have:=HI.out.1;omega)⟩
      obtain ⟨b,o,rfl,hb,hcc⟩:=HI.out.2.2.2.2 (by have:=HI.out.1;omega)
      have hx62:=HI.out.2.2.2.1 x (List.mem_of_getElem? ex)
      have x0:wr.cell? ⟨b,o+j,none⟩=some (.int .u64 (x:Int)):=(A.out.2.2.2.2.2.cell (p:=⟨b,o+j,none⟩) (by have:=B0.out.size;show b<w0.heap.size;omega)).trans ((B0.out.cell (p:=⟨b,o+j,none⟩) hb).trans (hcc j x ex))
      have hle:k≤x:=by rw [A.out.2.1];exact zfa HI.out.2.2.1 ex
      have eg:=zev hle (by omega)
      have eu:=zfb (x:=x) (by omega)
      have ej:wrap64 ((j:Int)+1)=((j+1:Nat):Int):=by have:=HI.out.2.1;unfold wrap64;omega
      have cs:=z59 (x - k) (by omega)
      have hsl:=z0O (x - k)
      have hsn:=z2j (x - k)
      have hsr:=z1m (X:=x - k) (by omega)
      have hdif:pre ++ (z0m (x - k) ++ DIFS (x+1) (L.drop (j+1)))=DIFS 0 L:=by
        have h1:=A.out.2.2.2.1
        rw [z3a ex,DIFS] at h1
        exact h1
      have A2:Aside (j+1+q=m∧x+1=LSX L (j+1)∧wr.ownsRow w0.heap.size 5 1 v np' (z00 (PRE ++ pre))∧pre ++ (z0m (x - k) ++ DIFS (x+1) (L.drop (j+1)))=DIFS 0 L∧np'≤21+10*j∧Below w0.heap.size w0 wr∧(z0m (x - k)).length=NTOP (x - k)+1∧NTOP (x - k)+1≤10∧(∀ y∈z0m (x - k),0≤y∧y≤255)∧j<2 ^ 20):=⟨by have:=A.out.1;clear ej eg eu;omega,(z3T ex).symm,A.out.2.2.1,hdif,A.out.2.2.2.2.1,A.out.2.2.2.2.2,hsl,by clear ej eg eu;omega,hsr,by have:=HI.out.2.1;clear ej eg eu;omega⟩
      have hs0:0<NTOP (x - k)+1:=Nat.succ_pos _
      generalize hSD:z0m (x - k)=SD at *
      generalize NTOP (x - k)+1=nd at *
      generalize x - k=xk at *
      clear A hdif hsl hsr hle hx62 ex hjm hcc hb hSD hsn
      go_wp2_with fail
      refine (cs _).mono ?_
      rintro e w6 ⟨g6,cap6,rfl,hown,hg,hb⟩
      clear cs x0
      have R5:Aside (w6.ownsRow w0.heap.size 5 1 v np' (z00 (PRE ++ pre))∧Below w0.heap.size w0 w6∧Bytes w6 (some ⟨g6,0,none⟩) nd SD):=⟨z0o A2.out.2.2.1 hb,A2.out.2.2.2.2.2.1.trans (hb.mono A2.out.2.2.2.2.2.1.size),z0W hown hg A2.out.2.2.2.2.2.2.2.2.1⟩
      clear hown hg hb
      go_wp2_with (first
        | (at_builtin;refine z0A _ rfl (.tmp 29) (.tmp 33) rfl w0.heap.size v np' (PRE ++ pre) rfl R5.out.1 g6 0 nd cap6 SD rfl R5.out.2.2 hs0 (by have:=A2.out;omega) R5.out.2.1.size ?_;intro g7 cap7 w7 hown hgrow hg
           have Z7:Aside (j+1+q=m∧x+1=LSX L (j+1)∧w7.ownsRow w0.heap.size 5 1 (.slice (some ⟨g7,0,none⟩) (np'+nd) cap7) (np'+nd) (z00 (PRE ++ (pre ++ SD)))∧(pre ++ SD) ++ DIFS (x+1) (L.drop (j+1))=DIFS 0 L∧np'+nd≤21+10*(j+1)∧Below w0.heap.size w0 w7):=⟨A2.out.1,A2.out.2.1,by rw [← List.append_assoc];exact hown,by rw [List.append_assoc];exact A2.out.2.2.2.1,by have:=A2.out;omega,R5.out.2.1.grown hgrow R5.out.2.1.size (fun k e=>(R5.out.1.lt k e).1)⟩
           clear hown hgrow hg R5 A2))
      go_roundg q
      case measure=>exact Nat.lt_succ_self _
      case rel=>exact ⟨j+1,x+1,np'+nd,_,pre ++ SD,rfl,by first | rfl | exact congrArg (Value.int IntKind.u64) eu,by first | rfl | (rw [ej]),Z7.out⟩
    | zero=>
      obtain rfl:j=m:=by have:=A.out.1;omega
      have hlt:¬ (j:Int)<(j:Int):=by omega
      have x2:=(CC.out _ A.out.2.2.2.2.2).2.2
      have A3:Aside (wr.ownsRow w0.heap.size 5 1 v np' (z00 (PRE ++ DIFS 0 L))∧np'≤2 ^ 24∧Below w0.heap.size w0 wr):=by
        obtain ⟨h1,h2,h3,h4,h5,h6⟩:=A.out
        rw [List.drop_of_length_le (by have:=HI.out.1;omega),DIFS,List.append_nil] at h4
        rw [h4] at h3
        exact ⟨h3,by have:=HI.out.2.1;omega,h6⟩
      clear A
      go_wp2_with fail
      clear x2
      obtain ⟨PP,hPP⟩:∃ PP,PRE ++ DIFS 0 L=PP:=⟨_,rfl⟩
      have HZ:Aside (PP ++ l=Z):=show PP ++ l=Z by rw [← hPP];exact HL.out.1
      rw [hPP] at A3
      clear hPP
      go_loopg [3,41] K (fun q s3 s41 wx=>∃ (i:Nat) (u:Value),u=s3∧s41=.int .i64 (i:Int)∧Aside (i+q=K∧wx.ownsRow w0.heap.size 5 1 u (np'+32*i) (z00 (PP ++ l.take (32*i)))∧Below w0.heap.size w0 wx))
      case atStart=>exact ⟨0,_,rfl,rfl,by omega,by simpa using A3.out.1,A3.out.2.2⟩
      case round =>
        obtain ⟨i,u,rfl,rfl,A⟩:=hrel
        cases gk with
        | zero=>
          obtain ⟨hi,hown,hbel⟩:=A.out
          obtain rfl:i=K:=by omega
          have hlt2:¬ (i:Int)<(i:Int):=by omega
          have R:Aside (wr.ownsRow w.heap.size 5 1 u NZ (z00 Z)∧Below w.heap.size w wr):=by
            rw [List.take_of_length_le (by have:=HA.out.1.1;omega),HZ.out] at hown
            have:=z9k hown
            rw [HL.out.2] at this
            rw [← this] at hown
            exact ⟨z0f hown B0.out.size,B0.out.trans (hbel.mono B0.out.size)⟩
          clear hi hown hbel A HA HL HI A3
          go_wp2
          go_ret
          exact ⟨_,rfl,R.out.1,R.out.2⟩
        | succ q =>
          obtain ⟨hi,hown,hbel⟩:=A.out
          have hK20:=HA.out.2.1
          have a1:Flat wr an K l:=(HA.out.1.below B0.out).below hbel
          have hlt2:(i:Int)<(K:Int):=by omega
          obtain ⟨b,o,rfl,hbl,hc⟩:=a1.2.1 (by omega)
          have hat:=a1.at (show i<K by omega)
          have h32:=z0U a1.1 (show i<K by omega)
          have hrr:∀ x∈HSH l i,0≤x∧x≤255:=fun x hx=>a1.2.2 x (z9j hx)
          have hnx:=z3A l i
          have e1:wrap64 ((i:Int)+1)=((i+1:Nat):Int):=by unfold wrap64;omega
          have R:Aside (i+1+q=K∧K<2 ^ 20∧np'≤2 ^ 24∧wr.ownsRow w0.heap.size 5 1 u (np'+32*i) (z00 (PP ++ l.take (32*i)))∧Below w0.heap.size w0 wr∧(HSH l i).length=32∧(∀ x∈HSH l i,0≤x∧x≤255)∧PP ++ l.take (32*(i+1))=PP ++ l.take (32*i) ++ HSH l i):=⟨by clear e1;omega,hK20,A3.out.2.1,hown,hbel,h32,hrr,by rw [hnx,List.append_assoc]⟩
          generalize HSH l i=H at *
          clear hi hown hbel a1 hbl hc hrr hnx A hK20 A3
          go_wp2_with (first
            | (refine wpList_load_mid rfl 38 (.tmp 43) rfl b (o+i*32) rfl (z00 H) _ hat Tryz.underlying38 rfl (z0j h32) ?_)
            | (refine wpList_store_row rfl 38 (.tmp 8) (.tmp 44) rfl _ _ rfl rfl 38 _ (Has.new wr _ _) (z05 h32) (by simp [z00,h32]) (z0l H) ?_;rw [World.setRow_alloc_new])
            | (at_builtin;refine z0A _ rfl (.tmp 45) (.tmp 46) rfl w0.heap.size u (np'+32*i) _ rfl (R.out.2.2.2.1.alloc _) wr.heap.size 0 32 32 H rfl (zbd wr R.out.2.2.2.2.2.1 R.out.2.2.2.2.2.2.1 _) (by omega) (by have:=R.out.1;have:=R.out.2.1;have:=R.out.2.2.1;omega) (by have:=R.out.2.2.2.2.1.size;simp;omega) ?_;intro g6 cap6 w6 hown hgrow hg
               have R2:Aside (i+1+q=K∧w6.ownsRow w0.heap.size 5 1 (.slice (some ⟨g6,0,none⟩) (np'+32*i+32) cap6) (np'+32*(i+1)) (z00 (PP ++ l.take (32*(i+1))))∧Below w0.heap.size w0 w6):=by
                 obtain ⟨r1,r2,r3,r4,r5,r6,r7,r8⟩:=R.out
                 refine ⟨r1,?_,(r5.alloc r5.size _).grown hgrow (by have:=r5.size;simp;omega) (fun k e=>(r4.lt k e).1)⟩
                 rw [r8,show np'+32*(i+1)=np'+32*i+32 by omega]
                 exact hown
               clear hown hgrow hg R hat h32))
          go_roundg q
          case measure=>exact Nat.lt_succ_self _
          case rel=>exact ⟨i+1,_,rfl,by first | rfl | (rw [e1]),R2.out⟩
end Go.Proofs.YtlicfinmibbpdaaGreatDoor

namespace Go.Proofs.YtlicfinmibbpdaaGreatDoor
open Go.RowKit
set_option maxRecDepth 100000
structure COUNTING (K:Nat) (w0 w:World) (bl:Nat) (acc:List Nat):Prop where
  le:acc.length≤K
  row:Has w bl #[.int .i64 ((K - acc.length:Nat):Int)] 3
  keep:∀ b,b<w0.heap.size→b≠bl→w.heap[b]?=w0.heap[b]?
  lt:bl<w0.heap.size
  below:Below bl w0 w
theorem COUNTING.still {K:Nat} {w0 w w':World} {bl:Nat} {acc:List Nat} (h:COUNTING K w0 w bl acc) (hb:Below w.heap.size w w'):COUNTING K w0 w' bl acc:=by
  have hs:=h.below.size
  have hlt:=h.lt
  exact ⟨h.le,h.row.keep hb,fun b hb0 hne=>(hb.block b (by omega)).trans (h.keep b hb0 hne),hlt,h.below.trans (hb.mono (by omega))⟩
set_option maxHeartbeats 1000000 in
theorem zds {K:Nat} {w0 w:World} {bl:Nat} {acc:List Nat} (hK20:K<2 ^ 20) (hK:COUNTING K w0 w bl acc) (p:Int):Calls Tryz.prog 68 #[.int .u64 p,.pointer (some ⟨bl,0,none⟩)] w fun e w'=>(e=.returned (.tuple #[])∧∀ x,COUNTING K w0 w' bl (acc ++ [x]))∨(e=.panicked (z0z 70)∧acc.length=K∧COUNTING K w0 w' bl acc):=by
  obtain ⟨r,hr⟩:∃ r,K - acc.length=r:=⟨_,rfl⟩
  have c0:=hK.row.cell 0
  have f0:=hK.row.frozen 0
  rw [hr] at c0
  have c0:w.cell? ⟨bl,0,none⟩=some (.int .i64 (r:Int)):=c0
  have HA:Aside (COUNTING K w0 w bl acc∧K - acc.length=r∧K<2 ^ 20):=⟨hK,hr,hK20⟩
  clear hK hr hK20
  rcases Nat.eq_zero_or_pos r with h0 | h0
  · subst h0
    go_enter Tryz.func68,Tryz.ntmps68
    go_wp2_with fail
    exact ⟨rfl,.inr ⟨rfl,by have:=HA.out.1.le;have:=HA.out.2.1;omega,HA.out.1⟩⟩
  · have hz:((r:Int) == 0)=false:=beq_eq_false_iff_ne.2 (by omega)
    have e1:wrap64 ((r:Int) - 1)=((r - 1:Nat):Int):=by have:=HA.out.2.1;have:=HA.out.2.2;unfold wrap64;omega
    have FN:Aside (∀ x,COUNTING K w0 (w.setCell ⟨bl,0,none⟩ (.int .i64 ((r - 1:Nat):Int))) bl (acc ++ [x])):=fun x=>by
      have h1:=HA.out.1
      have h2:=HA.out.2.1
      refine ⟨by rw [List.length_append];simp;clear e1;omega,?_,fun b hb hne=>(Below.heap_setCell _ _ _ _ (by exact hne)).trans (h1.keep b hb hne),h1.lt,h1.below.setCell (p:=⟨bl,0,none⟩) (Nat.le_refl _) _⟩
      have h3:=h1.row.set 0 (.int .i64 ((r - 1:Nat):Int))
      rw [List.length_append,show K - (acc.length+[x].length)=r - 1 by simp;clear e1;omega]
      exact h3
    clear HA
    generalize r - 1=r' at *
    go_enter Tryz.func68,Tryz.ntmps68
    go_wp2_with fail
    exact bodyPost_end (v:=.tuple #[]) (by simp [results,Tryz.f68]) rfl (.inl ⟨rfl,FN.out⟩)
def MWA (L:List Nat) (N K:Nat):Int:=if z07 L N≠0 then z07 L N else if K≠(z04 (TPS N) L).length then 70 else 0
theorem z5J {L:List Nat} {N K:Nat} (h:MWA L N K=0):z07 L N=0∧K=(z04 (TPS N) L).length:=by
  unfold MWA at h
  split at h
  · rename_i h1;exact absurd h h1
  · rename_i h1
    split at h
    · cases h
    · rename_i h2
      exact ⟨by simpa using h1,by simpa using h2⟩
theorem z5h {L:List Nat} {N K:Nat} (h:z07 L N≠0):MWA L N K=z07 L N:=if_pos h
theorem z4k {L:List Nat} {N K:Nat} (h:z07 L N=0) (hk:K≠(z04 (TPS N) L).length):MWA L N K=70:=by
  unfold MWA
  rw [if_neg (by simpa using h),if_pos hk]
theorem z4B {L:List Nat} {N K:Nat} (h:z07 L N=0) (hk:K=(z04 (TPS N) L).length):MWA L N K=0:=by
  unfold MWA
  rw [if_neg (by simpa using h),if_neg (by simpa using hk)]
def zat (L:List Nat) (N K:Nat) (w:World) (e:Ending) (w':World):Prop:=Below w.heap.size w w'∧((MWA L N K=0∧e=.returned (.tuple #[]))∨(MWA L N K≠0∧e=.panicked (z0z (MWA L N K))))
set_option maxHeartbeats 2000000 in
theorem z4l (L:List Nat) (N:Nat) (a:Option Addr) (m c:Nat) (an:Option Addr) (K cn:Nat) (w:World) (hl:L.length=m) (hm:m<2 ^ 20) (hc:m≤c) (hnil:a=none→c=0) (hbl:∀ x,a=some x→x.block<w.heap.size∧x.spot=none) (hK:K<2 ^ 20) (hL:NUML w a L) (hT:Tabled w) (hw0:0<w.heap.size):
    Calls Tryz.prog 33 #[.agg (MBOX N a m c an K cn)] w (zat L N K w):=by
  have hmf:∀ (fn:Fn) (first cap:Array Value) (w:World),(Instr.makeFunc fn first cap).run Tryz.prog w=.ok (.func fn first cap) w:=fun _ _ _ _=>rfl
  obtain ⟨w1,e1⟩:∃ w1,w.alloc (.cells (MBOX N a m c an K cn) 26)=w1:=⟨_,rfl⟩
  have s1:w1.heap.size=w.heap.size+1:=by rw [← e1];simp
  have h1:Has w1 w.heap.size (MBOX N a m c an K cn) 26:=by rw [← e1];exact Has.new w _ _
  have hb1:Below w.heap.size w w1:=by rw [← e1];exact (Below.refl _ _).alloc (Nat.le_refl _) _
  have hL1:NUML w1 a L:=fun hp=>by
    obtain ⟨b,o,e,hlt,hcc⟩:=hL hp
    exact ⟨b,o,e,by omega,fun i x hx=>(hb1.cell (p:=⟨b,o+i,none⟩) hlt).trans (hcc i x hx)⟩
  have hM:(MBOX N a m c an K cn)=#[.int .u64 (N:Int),.slice a m c,.slice an K cn]:=rfl
  have cr:=z4Z L N a m c hl (by omega) w1 hL1
  have x0:=h1.cell 0
  have x1:=h1.cell 1
  have x2:=h1.cell 2
  rw [hM] at e1 x0 x1 x2
  have HA:Aside (L.length=m∧m<2 ^ 20∧m≤c∧(a=none→c=0)∧(∀ x,a=some x→x.block<w.heap.size∧x.spot=none)∧K<2 ^ 20∧NUML w1 a L∧Tabled w1∧w1.heap.size=w.heap.size+1∧Has w1 w.heap.size (MBOX N a m c an K cn) 26∧Below w.heap.size w w1):=⟨hl,hm,hc,hnil,hbl,hK,hL1,hT.below hw0 hb1,s1,h1,hb1⟩
  clear hl hm hc hnil hbl hK hL hT hw0 s1 hb1 hL1
  go_enter Tryz.func33,Tryz.ntmps33
  rw [hM]
  go_wp2_with fail
  refine cr.mono ?_
  rintro e w2 ⟨rfl,(⟨hr,rfl⟩ | ⟨hr,rfl⟩)⟩
  · clear cr
    obtain ⟨r1,r2,r3⟩:=z1I hr
    obtain ⟨w3,e3⟩:∃ w3,w1.alloc (.cells #[.int .i64 (K:Int)] 3)=w3:=⟨_,rfl⟩
    have s3:w3.heap.size=w.heap.size+2:=by rw [← e3];simp;have:=HA.out.2.2.2.2.2.2.2.2.1;omega
    have h3:Has w3 w1.heap.size #[.int .i64 (K:Int)] 3:=by rw [← e3];exact Has.new w1 _ _
    have hb3:Below w1.heap.size w1 w3:=by rw [← e3];exact (Below.refl _ _).alloc (Nat.le_refl _) _
    have y0:w3.cell? ⟨w.heap.size,0,none⟩=some (.int .u64 (N:Int)):=(h1.keep hb3).cell 0
    have y1:w3.cell? ⟨w.heap.size,1,none⟩=some (.slice a m c):=(h1.keep hb3).cell 1
    obtain ⟨bj,hbj,hbn⟩:∃ bj,(∀ x,a=some x→x.block=bj∧x.spot=none)∧bj≠w1.heap.size:=by
      have hs:=HA.out.2.2.2.2.2.2.2.2.1
      cases a with
      | none=>exact ⟨w1.heap.size+1,fun x e=>(by cases e),by omega⟩
      | some x=>exact ⟨x.block,fun y e=>(by cases e;exact ⟨rfl,(HA.out.2.2.2.2.1 x rfl).2⟩),by have:=(HA.out.2.2.2.2.1 x rfl).1;omega⟩
    have hL3:NUML w3 a L:=fun hp=>by
      obtain ⟨b,o,e,hlt,hcc⟩:=HA.out.2.2.2.2.2.2.1 hp
      exact ⟨b,o,e,Nat.lt_of_lt_of_le hlt hb3.size,fun i x hx=>(hb3.cell (p:=⟨b,o+i,none⟩) hlt).trans (hcc i x hx)⟩
    have cn:=zdr bj w1.heap.size (fun w0 acc w=>COUNTING K w0 w w1.heap.size acc) (fun w0 acc w=>acc.length=K∧COUNTING K w0 w w1.heap.size acc) (z0z 70) (fun w0 acc w w' h hb=>h.still hb) (fun w0 acc w h=>⟨fun b hb hne=>h.keep b hb hne,h.below.size⟩) (fun w0 acc p w h _=>(zds HA.out.2.2.2.2.2.1 h (p:Int)).mono fun e w' hh=>hh.imp (fun x=>⟨x.1,x.2 p⟩) (fun x=>⟨x.1,x.2⟩)) N r1 L a m c w3 HA.out.1 HA.out.2.1 r2 HA.out.2.2.1 HA.out.2.2.2.1 hbj hL3 hbn h3.lt (HA.out.2.2.2.2.2.2.2.1.below (by have:=HA.out.2.2.2.2.2.2.2.2.1;omega) hb3)
      (fun w4 hb=>⟨Nat.zero_le _,h3.keep hb,fun b _ _=>rfl,(h3.keep hb).lt,Below.refl _ _⟩)
    have HR:Aside (z07 L N=0∧Below w1.heap.size w1 w3∧K<2 ^ 20):=⟨hr,hb3,HA.out.2.2.2.2.2.1⟩
    have BW:Aside (Below w.heap.size w w1):=HA.out.2.2.2.2.2.2.2.2.2.2
    clear r1 r2 r3 hbj hbn hr hL3 s3 h3 HA h1 hb3
    go_wp2_with fail
    refine cn.mono ?_
    rintro e w5 ⟨w4,hb4,(⟨rfl,ht⟩ | ⟨pre,p,hpre,rfl,hp1,hp2⟩)⟩
    · clear cn
      rw [List.nil_append] at ht
      have z0:=ht.row.cell 0
      obtain ⟨r,hrr⟩:∃ r,K - (z04 (TPS N) L).length=r:=⟨_,rfl⟩
      rw [hrr] at z0
      have z0:w5.cell? ⟨w1.heap.size,0,none⟩=some (.int .i64 (r:Int)):=z0
      have hbW:Below w.heap.size w w5:=by
        have h34:Below w1.heap.size w1 w4:=HR.out.2.1.trans (hb4.mono HR.out.2.1.size)
        have h1w:Below w.heap.size w w4:=BW.out.trans (h34.mono BW.out.size)
        exact h1w.trans (ht.below.mono BW.out.size)
      have hle:=ht.le
      rcases Nat.eq_zero_or_pos r with h0 | h0
      · subst h0
        have FN:Aside (zat L N K w (.returned (.tuple #[])) w5):=⟨hbW,.inl ⟨z4B HR.out.1 (by omega),rfl⟩⟩
        clear ht hbW hb4 hle hrr HR BW
        go_wp2_with fail
        exact bodyPost_end (v:=.tuple #[]) (by simp [results,Tryz.f33]) rfl FN.out
      · have hgt:(0:Int)<(r:Int):=by omega
        have hm7:=z4k (K:=K) HR.out.1 (by omega)
        have FN:Aside (zat L N K w (.panicked (z0z 70)) w5):=⟨hbW,.inr ⟨by rw [hm7];decide,by rw [hm7]⟩⟩
        clear ht hbW hb4 hle hrr HR BW hm7
        go_wp2_with fail
        exact ⟨rfl,FN.out⟩
    · have hbW:Below w.heap.size w w5:=by
        have h34:Below w1.heap.size w1 w4:=HR.out.2.1.trans (hb4.mono HR.out.2.1.size)
        have h1w:Below w.heap.size w w4:=BW.out.trans (h34.mono BW.out.size)
        exact h1w.trans (hp2.below.mono BW.out.size)
      have hlen:=hpre.length_le
      rw [List.nil_append,List.length_append,hp1] at hlen
      have hm7:=z4k (K:=K) HR.out.1 (by simp at hlen;omega)
      exact ⟨rfl,hbW,.inr ⟨by rw [hm7];decide,by rw [hm7]⟩⟩
  · refine ⟨rfl,HA.out.2.2.2.2.2.2.2.2.2.2,.inr ⟨?_,?_⟩⟩
    · rw [z5h hr];exact hr
    · rw [z5h hr]
end Go.Proofs.YtlicfinmibbpdaaGreatDoor

namespace Go.Proofs.YtlicfinmibbpdaaGreatDoor
open Go.RowKit
set_option maxRecDepth 100000
set_option maxHeartbeats 1000000 in
theorem zdt (b0 b1:Nat) (w:World) (G:World→Prop) (B:Int→World→Prop)
    (hdo:Calls Tryz.prog 50 #[.pointer (some ⟨b0,0,none⟩),.pointer (some ⟨b1,0,none⟩)] (w.alloc (.cells #[.int .i64 0] 29)) fun e w'=>(e=.returned (.tuple #[])∧G w')∨∃ x,e=.panicked (z0z x)∧B x w')
    (hG:∀ w',G w'→Has w' w.heap.size #[.int .i64 0] 29) (hB:∀ x w',B x w'→Has w' w.heap.size #[.int .i64 0] 29):
    Calls Tryz.prog 31 #[.func (.func 50) #[] #[.pointer (some ⟨b0,0,none⟩),.pointer (some ⟨b1,0,none⟩)]] w (z3b w G B):=by
  have hmf:∀ (fn:Fn) (first cap:Array Value) (w:World),(Instr.makeFunc fn first cap).run Tryz.prog w=.ok (.func fn first cap) w:=fun _ _ _ _=>rfl
  have HG:Aside (∀ w',G w'→Has w' w.heap.size #[.int .i64 0] 29):=hG
  have HB:Aside (∀ x w',B x w'→Has w' w.heap.size #[.int .i64 0] 29):=hB
  clear hG hB
  go_enter_defers Tryz.func31,Tryz.ntmps31
  go_wp2_with fail
  refine hdo.mono ?_
  rintro e w1 (⟨rfl,h1⟩ | ⟨x,rfl,h1⟩)
  · clear hdo
    have hh:=HG.out w1 h1
    have c0:=hh.cell 0
    have f0:=hh.frozen 0
    have G1:Aside (G w1):=h1
    clear h1
    go_wp2_with fail
    refine leaves_cons (f:=65) (args:=#[.pointer (some ⟨w.heap.size,0,none⟩)]) (by simp) (by simp [go_sem]) ?_
    refine (z2K ⟨w.heap.size,0,none⟩ _).mono ?_
    rintro e u' w'' ⟨rfl,rfl,rfl⟩
    have c1:=(hh.set 0 (.int .i64 0)).cell 0
    simp [Leaves,settle,results,Tryz.results31,go_sem,c1]
    exact .inl ⟨rfl,w1,G1.out,rfl⟩
  · have hh:=HB.out x w1 h1
    have c0:=hh.cell 0
    have f0:=hh.frozen 0
    refine leaves_cons (f:=65) (args:=#[.pointer (some ⟨w.heap.size,0,none⟩)]) (by simp) (by simp [go_sem]) ?_
    refine (z1C ⟨w.heap.size,0,none⟩ 0 x [] w1 c0 f0).mono ?_
    rintro e u' w'' ⟨rfl,rfl,rfl⟩
    have c1:=(hh.set 0 (.int .i64 x)).cell 0
    simp [Leaves,settle,results,Tryz.results31,go_sem,c1]
    exact .inr ⟨x,w1,rfl,h1,rfl⟩
end Go.Proofs.YtlicfinmibbpdaaGreatDoor

namespace Go.Proofs.YtlicfinmibbpdaaGreatDoor
open Go.RowKit
set_option maxRecDepth 100000
def MENC (L:List Nat) (N K:Nat) (l:List Int):Int × List Int:=if MWA L N K=0 then (0,MWRT L N l) else (MWA L N K,[])
theorem z2Q {w:World} {B s n:Nat} {t:TypeId} {v:Value} {xs:List Value} (h:w.ownsRow B t s v n xs):∃ a c,v=.slice a n c:=by
  rcases h.2 with ⟨e,h0⟩ | ⟨g,cap,cur,e,_⟩
  · exact ⟨none,0,by rw [e,h0]⟩
  · exact ⟨_,_,e⟩
structure ENCD (w w':World) (b1:Nat) (Z:List Int):Prop where
  row:∃ v,Has w' b1 #[v] 39∧w'.ownsRow w.heap.size 5 1 v Z.length (z00 Z)
  keep:∀ b,b<w.heap.size→b≠b1→w'.heap[b]?=w.heap[b]?
  below:Below b1 w w'
set_option maxHeartbeats 2000000 in
theorem z8J (L:List Nat) (N:Nat) (a:Option Addr) (m c:Nat) (an:Option Addr) (K cn:Nat) (l:List Int) (b0 b1:Nat) (w:World) (hl:L.length=m) (hm:m<2 ^ 20) (hc:m≤c) (hnil:a=none→c=0) (hbl:∀ x,a=some x→x.block<w.heap.size∧x.spot=none) (hK:K<2 ^ 20) (hL:NUML w a L) (hF:Flat w an K l) (hT:Tabled w) (hw0:0<w.heap.size)
    (h0:Has w b0 (MBOX N a m c an K cn) 26) (h1:Has w b1 #[.slice none 0 0] 39):
    Calls Tryz.prog 50 #[.pointer (some ⟨b0,0,none⟩),.pointer (some ⟨b1,0,none⟩)] w fun e w'=>
      (e=.returned (.tuple #[])∧(MWA L N K=0∧ENCD w w' b1 (MWRT L N l)))∨∃ x,e=.panicked (z0z x)∧(x=MWA L N K∧x≠0∧Below w.heap.size w w'):=by
  have cm:=z4l L N a m c an K cn w hl hm hc hnil hbl hK hL hT hw0
  have hM:(MBOX N a m c an K cn)=#[.int .u64 (N:Int),.slice a m c,.slice an K cn]:=rfl
  have x0:w.cell? ⟨b0,0,none⟩=some (.int .u64 (N:Int)):=h0.cell 0
  have x1:w.cell? ⟨b0,1,none⟩=some (.slice a m c):=h0.cell 1
  have x2:w.cell? ⟨b0,2,none⟩=some (.slice an K cn):=h0.cell 2
  have HA:Aside (L.length=m∧m<2 ^ 20∧K<2 ^ 20∧NUML w a L∧Flat w an K l∧Has w b0 (MBOX N a m c an K cn) 26∧Has w b1 #[.slice none 0 0] 39):=⟨hl,hm,hK,hL,hF,h0,h1⟩
  clear hl hm hc hnil hbl hK hL hF hT hw0 h0 h1
  rw [hM] at cm
  go_enter Tryz.func50,Tryz.ntmps50
  go_wp2_with fail
  refine cm.mono ?_
  rintro e w1 ⟨hb1,(⟨hr,rfl⟩ | ⟨hr,rfl⟩)⟩
  · clear cm x0 x1 x2
    obtain ⟨q1,q2⟩:=z5J hr
    obtain ⟨r1,r2,r3⟩:=z1I q1
    have k0:=HA.out.2.2.2.2.2.1.keep hb1
    have x0:w1.cell? ⟨b0,0,none⟩=some (.int .u64 (N:Int)):=k0.cell 0
    have x1:w1.cell? ⟨b0,1,none⟩=some (.slice a m c):=k0.cell 1
    have x2:w1.cell? ⟨b0,2,none⟩=some (.slice an K cn):=k0.cell 2
    have cw:=z67 L N (by omega) a m c an K cn l w1 HA.out.1 HA.out.2.1 HA.out.2.2.1 r2 (fun x hx=>by have:=r3 x hx;omega) (fun hp=>by
      obtain ⟨b,o,e,hlt,hcc⟩:=HA.out.2.2.2.1 hp
      exact ⟨b,o,e,Nat.lt_of_lt_of_le hlt hb1.size,fun i x hx=>(hb1.cell (p:=⟨b,o+i,none⟩) hlt).trans (hcc i x hx)⟩) (HA.out.2.2.2.2.1.below hb1)
    rw [hM] at cw
    have HR:Aside (MWA L N K=0∧Below w.heap.size w w1):=⟨hr,hb1⟩
    clear hr q1 q2 r1 r2 r3 hb1 k0
    go_wp2_with fail
    refine cw.mono ?_
    rintro e w2 ⟨v,rfl,hown,hb2⟩
    clear cw x0 x1 x2
    obtain ⟨av,cv,rfl⟩:=z2Q hown
    generalize hvv:Value.slice av (MWRT L N l).length cv=v at *
    have hw2:Below w.heap.size w w2:=HR.out.2.trans (hb2.mono HR.out.2.size)
    have k1:=HA.out.2.2.2.2.2.2.keep hw2
    have c1:=k1.cell 0
    have f1:=k1.frozen 0
    have FN:Aside (ENCD w (w2.setCell ⟨b1,0,none⟩ v) b1 (MWRT L N l)):=by
      have hlt:=HA.out.2.2.2.2.2.2.lt
      refine ⟨⟨v,k1.set 0 v,z0f (ownsRow_setCell_below hown (a:=⟨b1,0,none⟩) (by show b1<w1.heap.size;have:=HR.out.2.size;omega) _) HR.out.2.size⟩,fun b hb hne=>(Below.heap_setCell _ _ _ _ (by exact hne)).trans (hw2.block b hb),?_⟩
      exact (hw2.mono (Nat.le_of_lt hlt)).setCell (p:=⟨b1,0,none⟩) (Nat.le_refl _) _
    subst hvv
    clear hown hb2 hw2 k1 HA
    go_wp2_with fail
    exact bodyPost_end (v:=.tuple #[]) (by simp [results,Tryz.f50]) rfl (.inl ⟨rfl,HR.out.1,FN.out⟩)
  · exact ⟨rfl,.inr ⟨_,rfl,rfl,hr,hb1⟩⟩
def ANSY (w:World) (A:Int × List Int) (e:Ending) (w':World):Prop:=∃ a c,e=.returned (.tuple #[.slice a A.2.length c,.int .i64 A.1])∧w'.ownsRow w.heap.size 5 1 (.slice a A.2.length c) A.2.length (z00 A.2)∧Below w.heap.size w w'
set_option maxHeartbeats 2000000 in
theorem z6R (L:List Nat) (N:Nat) (a:Option Addr) (m c:Nat) (an:Option Addr) (K cn:Nat) (l:List Int) (w:World) (hl:L.length=m) (hm:m<2 ^ 20) (hc:m≤c) (hnil:a=none→c=0) (hbl:∀ x,a=some x→x.block<w.heap.size∧x.spot=none) (hK:K<2 ^ 20) (hL:NUML w a L) (hF:Flat w an K l) (hT:Tabled w) (hw0:0<w.heap.size):
    Calls Tryz.prog 23 #[.agg (MBOX N a m c an K cn)] w (ANSY w (MENC L N K l)):=by
  have hmf:∀ (fn:Fn) (first cap:Array Value) (w:World),(Instr.makeFunc fn first cap).run Tryz.prog w=.ok (.func fn first cap) w:=fun _ _ _ _=>rfl
  obtain ⟨w1,e1⟩:∃ w1,w.alloc (.cells (MBOX N a m c an K cn) 26)=w1:=⟨_,rfl⟩
  obtain ⟨w3,e3⟩:∃ w3,w1.alloc (.cells #[.slice none 0 0] 39)=w3:=⟨_,rfl⟩
  obtain ⟨w4,e4⟩:∃ w4,w3.alloc (.cells #[.int .i64 0] 29)=w4:=⟨_,rfl⟩
  have s1:w1.heap.size=w.heap.size+1:=by rw [← e1];simp
  have s3:w3.heap.size=w.heap.size+2:=by rw [← e3];simp;omega
  have s4:w4.heap.size=w.heap.size+3:=by rw [← e4];simp;omega
  have hb4:Below w.heap.size w w4:=by
    rw [← e4,← e3,← e1]
    exact (((Below.refl _ _).alloc (Nat.le_refl _) _).alloc (by simp) _).alloc (by simp;omega) _
  have h0:Has w4 w.heap.size (MBOX N a m c an K cn) 26:=by
    rw [← e4,← e3,← e1]
    exact ((Has.new w _ _).alloc _).alloc _
  have h1:Has w4 w1.heap.size #[.slice none 0 0] 39:=by
    rw [← e4,← e3]
    exact (Has.new w1 _ _).alloc _
  have h3:Has w4 w3.heap.size #[.int .i64 0] 29:=by
    rw [← e4]
    exact Has.new w3 _ _
  have hL4:NUML w4 a L:=fun hp=>by
    obtain ⟨b,o,e,hlt,hcc⟩:=hL hp
    exact ⟨b,o,e,by omega,fun i x hx=>(hb4.cell (p:=⟨b,o+i,none⟩) hlt).trans (hcc i x hx)⟩
  have cd:=z8J L N a m c an K cn l w.heap.size w1.heap.size w4 hl hm hc hnil (fun x e=>⟨by have:=(hbl x e).1;omega,(hbl x e).2⟩) hK hL4 (hF.below hb4) (hT.below hw0 hb4) (by omega) h0 h1
  rw [← e4] at cd
  have cf:=zdt w.heap.size w1.heap.size w3 _ _ cd
    (fun w' ⟨_,ht⟩=>by
      rw [e4] at ht
      exact (ht.keep w3.heap.size (by omega) (by omega)).trans h3)
    (fun x w' ⟨_,_,hb⟩=>by rw [e4] at hb;exact h3.keep hb)
  rw [e4] at cf
  have FIN:Aside (∀ e w',z3b w3 (fun w'=>MWA L N K=0∧ENCD w4 w' w1.heap.size (MWRT L N l)) (fun x w'=>x=MWA L N K∧x≠0∧Below w4.heap.size w4 w') e w'→e=.returned (.int .i64 (MENC L N K l).1)∧Below w.heap.size w w'∧∃ a' c',Has w' w1.heap.size #[.slice a' (MENC L N K l).2.length c'] 39∧w'.ownsRow w.heap.size 5 1 (.slice a' (MENC L N K l).2.length c') (MENC L N K l).2.length (z00 (MENC L N K l).2)):=by
    rintro e w' (⟨rfl,wx,⟨hr,ht⟩,rfl⟩ | ⟨x,wx,rfl,⟨rfl,hx,hbx⟩,rfl⟩)
    · have hP:MENC L N K l=(0,MWRT L N l):=if_pos hr
      obtain ⟨v,hv,hown⟩:=ht.row
      obtain ⟨a',c',rfl⟩:=z2Q hown
      rw [hP]
      refine ⟨rfl,?_,a',c',?_,?_⟩
      · exact ((hb4.trans (ht.below.mono (by omega)))).setCell (by show w.heap.size≤w3.heap.size;omega) _
      · exact hv.other (by show w1.heap.size≠w3.heap.size;omega) _
      · exact z0f (ownsRow_setCell_below hown (a:=⟨w3.heap.size,0,none⟩) (by show w3.heap.size<w4.heap.size;omega) _) (by omega)
    · have hP:MENC L N K l=(MWA L N K,[]):=if_neg hx
      rw [hP]
      refine ⟨rfl,(hb4.trans (hbx.mono hb4.size)).setCell (by show w.heap.size≤w3.heap.size;omega) _,none,0,?_,?_⟩
      · exact (h1.keep hbx).other (by show w1.heap.size≠w3.heap.size;omega) _
      · exact ⟨rfl,.inl ⟨rfl,rfl⟩⟩
  have hM:(MBOX N a m c an K cn)=#[.int .u64 (N:Int),.slice a m c,.slice an K cn]:=rfl
  rw [hM] at e1
  clear cd h0 h1 h3 hL4 hb4 hl hm hc hnil hbl hL hF hT s1 s3 s4 e4 hw0 hK
  generalize MENC L N K l=A at *
  go_enter Tryz.func23,Tryz.ntmps23
  rw [hM]
  go_wp2_with fail
  refine cf.mono ?_
  intro e w5 hh
  obtain ⟨rfl,hb5,a',c',hv,hown⟩:=FIN.out e w5 hh
  have x0:=hv.cell 0
  have FN:Aside (ANSY w A (.returned (.tuple #[.slice a' A.2.length c',.int .i64 A.1])) w5):=⟨a',c',rfl,hown,hb5⟩
  clear hh hb5 hv hown FIN cf
  go_wp2_with fail
  go_ret2
  exact FN.out
end Go.Proofs.YtlicfinmibbpdaaGreatDoor
