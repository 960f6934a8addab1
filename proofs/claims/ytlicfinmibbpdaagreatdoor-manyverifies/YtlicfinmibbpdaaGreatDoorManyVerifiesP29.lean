/- Texts of ManyVerifies, one behind the other: ManyRefEncode. -/
import Derived.Test.YtlicfinmibbpdaaGreatDoorManyVerifiesP26
import Derived.Test.YtlicfinmibbpdaaGreatDoorManyVerifiesP28
namespace Go.Proofs.YtlicfinmibbpdaaGreatDoor
open Go.RowKit
set_option maxRecDepth 100000
theorem zbW {x y:Nat} (h:y<x) (hx:x<2 ^ 63):IntKind.u64.wrap ((x:Int) - (y:Int))=((x - y:Nat):Int)∧IntKind.u64.wrap (((x - y:Nat):Int) - 1)=((x - (y+1):Nat):Int):=by
  rw [z09,z09];omega
set_option maxHeartbeats 8000000 in
theorem z3s (L:List Nat) (N:Nat) (hN:N<2 ^ 64) (a:Option Addr) (m c:Nat) (an:Option Addr) (K cn:Nat) (l:List Int) (w:World) (hl:L.length=m) (hm:m≤200) (hx:∀ x∈L,x<2 ^ 64) (hK:K≤200) (hL:NUML w a L) (hF:Flat w an K l):
    Calls Tryz.prog 28 #[.agg #[.int .u64 (N:Int),.slice a m c,.slice an K cn]] w (ANSY w (MENC L N K l)):=by
  obtain ⟨w0,hw0⟩:∃ w0,w.alloc (.cells #[.int .u64 (N:Int),.slice a m c,.slice an K cn] 26)=w0:=⟨_,rfl⟩
  have h1:Has w0 w.heap.size #[.int .u64 (N:Int),.slice a m c,.slice an K cn] 26:=by rw [← hw0];exact Has.new w _ _
  have hb0:Below w.heap.size w w0:=by rw [← hw0];exact (Below.refl _ _).alloc (Nat.le_refl _) _
  have cp:=z3r L N a m c w0 hl (by omega) hx (hL.keep hb0)
  have CC:Aside (∀ W,Below w0.heap.size w0 W→W.cell? ⟨w.heap.size,0,none⟩=some (.int .u64 (N:Int))∧W.cell? ⟨w.heap.size,1,none⟩=some (.slice a m c)∧W.cell? ⟨w.heap.size,2,none⟩=some (.slice an K cn)):=fun W hb=>⟨(h1.keep hb).cell 0,(h1.keep hb).cell 1,(h1.keep hb).cell 2⟩
  have HA:Aside (N<2 ^ 64∧L.length=m∧m≤200∧K≤200∧NUML w0 a L∧Flat w0 an K l∧Below w.heap.size w w0∧w.heap.size<w0.heap.size):=⟨hN,hl,hm,hK,hL.keep hb0,hF.below hb0,hb0,h1.lt⟩
  obtain ⟨M,hM⟩:∃ M,MENC L N K l=M:=⟨_,rfl⟩
  rw [hM]
  have HM:Aside (MENC L N K l=M):=hM
  obtain ⟨x0,x1,x2⟩:=CC.out w0 (Below.refl _ _)
  clear hN hl hm hx hK hL hF h1 hb0 hM
  by_cases hr:z07 L N=0
  · rw [hr] at cp
    have hP:PLCA L N=z04 (TPS N) L:=if_pos hr
    rw [hP] at cp
    obtain ⟨P,hPe⟩:∃ P,(z04 (TPS N) L).length=P:=⟨_,rfl⟩
    by_cases hKP:K=P
    · subst hKP
      have hM2:M=(0,MWRT L N l):=by
        rw [← HM.out]
        unfold MENC
        rw [if_pos (z4B hr hPe.symm)]
      have hr2:=z1I hr
      have c1:=z2s N HA.out.1
      have c2:=z2s m (by have:=HA.out.2.2.1;omega)
      have hl1:=z0O N
      have hl2:=z0O m
      have h91:=z2j N
      have h92:=z2j m
      have hr1:=z1m HA.out.1
      have hr22:=z1m (X:=m) (by have:=HA.out.2.2.1;omega)
      have eL:MWRT L N l=[78] ++ z0m N ++ z0m m ++ DIFS 0 L ++ l:=by unfold MWRT;rw [HA.out.2.1];simp
      rw [hM2]
      obtain ⟨Z,hZ⟩:∃ Z,MWRT L N l=Z:=⟨_,rfl⟩
      rw [hZ] at eL ⊢
      generalize hSX:z0m N=SX at *
      generalize hSY:z0m m=SY at *
      have hn1:0<NTOP N+1:=by omega
      have hn2:0<NTOP m+1:=by omega
      have hm1:NTOP N+1≤10:=by omega
      have hm2:NTOP m+1≤10:=by omega
      clear h91 h92 hSX hSY hM2 hZ
      generalize NTOP N+1=nx at *
      generalize NTOP m+1=ny at *
      have HS:Aside (SX.length=nx∧SY.length=ny∧nx≤10∧ny≤10∧(∀ x∈SX,0≤x∧x≤255)∧(∀ x∈SY,0≤x∧x≤255)∧Z=[78] ++ SX ++ SY ++ DIFS 0 L ++ l∧RISES L∧(∀ x∈L,x<2 ^ 62)):=⟨hl1,hl2,hm1,hm2,hr1,hr22,eL,hr2.2.1,fun x hx=>by have:=hr2.2.2 x hx;have:=hr2.1;omega⟩
      have eum:=z9v (x:=m) (by have:=HA.out.2.2.1;omega)
      clear hl1 hl2 hm1 hm2 hr1 hr22 eL hr2 hr HM
      unfold ANSN at cp
      rw [hPe] at cp
      go_enter Tryz.func28,Tryz.ntmps28
      go_wp2_with fail
      refine cp.mono ?_
      rintro e w1 ⟨ap,kp,rfl,_,hb1⟩
      have B1:Aside (Below w0.heap.size w0 w1):=hb1
      obtain ⟨y0,y1,y2⟩:=CC.out w1 hb1
      have R0:Aside ((w1.alloc (.cells #[.int .u8 78] 5)).ownsRow w1.heap.size 5 1 (.slice (some ⟨w1.heap.size,0,none⟩) 1 1) 1 (z00 [78])∧Below w1.heap.size w1 (w1.alloc (.cells #[.int .u8 78] 5))):=⟨z4u w1 78,(Below.refl _ _).alloc (Nat.le_refl _) _⟩
      have z0:(w1.alloc (.cells #[.int .u8 78] 5)).cell? ⟨w.heap.size,0,none⟩=some (.int .u64 (N:Int)):=(CC.out _ (B1.out.trans (R0.out.2.mono B1.out.size))).1
      clear cp hb1 x0 x1 x2 hw0
      go_wp2_with fail
      generalize w1.alloc (.cells #[.int .u8 78] 5)=wa at *
      refine (c1 _).mono ?_
      rintro e w2 ⟨g,cap,rfl,hown,hg,hb⟩
      have R1:Aside (w2.ownsRow w1.heap.size 5 1 (.slice (some ⟨w1.heap.size,0,none⟩) 1 1) 1 (z00 [78])∧Below w1.heap.size w1 w2∧Bytes w2 (some ⟨g,0,none⟩) nx SX):=⟨z0o R0.out.1 hb,R0.out.2.trans (hb.mono R0.out.2.size),z0W hown hg HS.out.2.2.2.2.1⟩
      clear hown hg hb R0 c1 y0 y1 y2 z0
      go_wp2_with (first
        | (at_builtin;refine z0A _ rfl (.tmp 26) (.tmp 29) rfl w1.heap.size _ 1 [78] rfl R1.out.1 g 0 nx cap SX rfl R1.out.2.2 hn1 (by have:=HS.out.2.2.1;omega) R1.out.2.1.size ?_;intro g3 cap3 w3 hown hgrow hg
           have R2:Aside (w3.ownsRow w1.heap.size 5 1 (.slice (some ⟨g3,0,none⟩) (1+nx) cap3) (1+nx) (z00 ([78] ++ SX))∧Below w1.heap.size w1 w3):=⟨hown,R1.out.2.1.grown hgrow R1.out.2.1.size (fun k e=>(R1.out.1.lt k e).1)⟩
           have y1:=(CC.out w3 (B1.out.trans (R2.out.2.mono B1.out.size))).2.1
           clear hown hgrow hg R1))
      refine (c2 _).mono ?_
      rintro e w4 ⟨g4,cap4,rfl,hown,hg,hb⟩
      have R3:Aside (w4.ownsRow w1.heap.size 5 1 (.slice (some ⟨g3,0,none⟩) (1+nx) cap3) (1+nx) (z00 ([78] ++ SX))∧Below w1.heap.size w1 w4∧Bytes w4 (some ⟨g4,0,none⟩) ny SY):=⟨z0o R2.out.1 hb,R2.out.2.trans (hb.mono R2.out.2.size),z0W hown hg HS.out.2.2.2.2.2.1⟩
      clear hown hg hb R2 c2 y1 eum
      go_wp2_with (first
        | (at_builtin;refine z0A _ rfl (.tmp 31) (.tmp 36) rfl w1.heap.size _ (1+nx) ([78] ++ SX) rfl R3.out.1 g4 0 ny cap4 SY rfl R3.out.2.2 hn2 (by have:=HS.out;omega) R3.out.2.1.size ?_;intro g5 cap5 w5 hown hgrow hg
           have R4:Aside (w5.ownsRow w1.heap.size 5 1 (.slice (some ⟨g5,0,none⟩) (1+nx+ny) cap5) (1+nx+ny) (z00 ([78] ++ SX ++ SY))∧Below w1.heap.size w1 w5):=⟨hown,R3.out.2.1.grown hgrow R3.out.2.1.size (fun k e=>(R3.out.1.lt k e).1)⟩
           clear hown hgrow hg R3))
      have HP:Aside (1+nx+ny≤21∧Z=([78] ++ SX ++ SY) ++ DIFS 0 L ++ l):=⟨by have:=HS.out;omega,HS.out.2.2.2.2.2.2.1⟩
      generalize [78] ++ SX ++ SY=PRE at *
      generalize 1+nx+ny=np at *
      go_loopg [6,7] m (fun q s6 s7 wx=>∃ (j np':Nat) (v:Value) (pre:List Int),v=s6∧s7=.int .i64 (j:Int)∧Aside (j+q=m∧wx.ownsRow w1.heap.size 5 1 v np' (z00 (PRE ++ pre))∧pre ++ DIFS (LSX L j) (L.drop j)=DIFS 0 L∧np'≤21+10*j∧Below w1.heap.size w1 wx))
      case atStart=>exact ⟨0,np,_,[],rfl,rfl,by omega,by simpa using R4.out.1,by simp [z7Q],HP.out.1,R4.out.2⟩
      case round =>
        obtain ⟨j,np',v,pre,rfl,rfl,A⟩:=hrel
        clear R4
        obtain ⟨y0,y1,y2⟩:=CC.out wr (B1.out.trans (A.out.2.2.2.2.mono B1.out.size))
        cases gk with
        | succ q =>
          have hjm:j<m:=by have:=A.out.1;omega
          have hlt:(j:Int)<(m:Int):=by omega
          obtain ⟨x,ex⟩:∃ x,L[j]?=some x:=⟨_,List.getElem?_eq_getElem (by have:=HA.out.2.1;omega)⟩
          obtain ⟨b,o,rfl,hb,hcc⟩:=HA.out.2.2.2.2.1 (by have:=HA.out.2.1;omega)
          have hx62:=HS.out.2.2.2.2.2.2.2.2 x (List.mem_of_getElem? ex)
          have hbw:Below w0.heap.size w0 wr:=B1.out.trans (A.out.2.2.2.2.mono B1.out.size)
          have x0:wr.cell? ⟨b,o+j,none⟩=some (.int .u64 (x:Int)):=(hbw.cell (p:=⟨b,o+j,none⟩) hb).trans (hcc j x ex)
          have ej:wrap64 ((j:Int)+1)=((j+1:Nat):Int):=by have:=HA.out.2.2.1;unfold wrap64;omega
          have hnx:=z3T ex
          have hdif0:pre ++ (z0m (x - LSX L j) ++ DIFS (LSX L (j+1)) (L.drop (j+1)))=DIFS 0 L:=by
            have h1:=A.out.2.2.1
            rw [z3a ex,DIFS] at h1
            rw [hnx]
            exact h1
          rcases Nat.eq_zero_or_pos j with hj0 | hj0
          · have hz:¬ (0:Int)<(j:Int):=by omega
            have hz2:¬ 0<j:=by omega
            have hxk:x - LSX L j=x:=by rw [hj0,z7Q,Nat.sub_zero]
            rw [hxk] at hdif0
            obtain ⟨xk,hxke⟩:∃ xk,xk=x:=⟨_,rfl⟩
            subst hxke
            have hdif:=hdif0
            have cs:=z2s xk (by omega)
            have hsl:=z0O xk
            have hsn:=z2j xk
            have hsr:=z1m (X:=xk) (by omega)
            clear hnx hxk hdif0 hbw hj0
            have A2:Aside (j+1+q=m∧wr.ownsRow w1.heap.size 5 1 v np' (z00 (PRE ++ pre))∧pre ++ (z0m xk ++ DIFS (LSX L (j+1)) (L.drop (j+1)))=DIFS 0 L∧np'≤21+10*j∧Below w1.heap.size w1 wr∧(z0m xk).length=NTOP xk+1∧NTOP xk+1≤10∧(∀ y∈z0m xk,0≤y∧y≤255)∧j<2 ^ 20):=⟨by have:=A.out.1;clear ej;omega,A.out.2.1,hdif,A.out.2.2.2.1,A.out.2.2.2.2,hsl,by have:=hsn;clear ej;omega,hsr,by have:=HA.out.2.2.1;clear ej;omega⟩
            have hs0:0<NTOP xk+1:=Nat.succ_pos _
            generalize hSD:z0m xk=SD at *
            generalize NTOP xk+1=nd at *
            clear A hdif hsl hsr hx62 ex hcc hb hSD hsn hjm
            go_wp2_with fail
            refine (cs _).mono ?_
            rintro e w6 ⟨g6,cap6,rfl,hown,hg,hb⟩
            clear cs x0 y0 y1 y2
            have R5:Aside (w6.ownsRow w1.heap.size 5 1 v np' (z00 (PRE ++ pre))∧Below w1.heap.size w1 w6∧Bytes w6 (some ⟨g6,0,none⟩) nd SD):=⟨z0o A2.out.2.1 hb,A2.out.2.2.2.2.1.trans (hb.mono A2.out.2.2.2.2.1.size),z0W hown hg A2.out.2.2.2.2.2.2.2.1⟩
            clear hown hg hb
            go_wp2_with (first
              | (at_builtin;refine z0A _ rfl (.tmp 61) (.tmp 63) rfl w1.heap.size v np' (PRE ++ pre) rfl R5.out.1 g6 0 nd cap6 SD rfl R5.out.2.2 hs0 (by have:=A2.out;omega) R5.out.2.1.size ?_;intro g7 cap7 w7 hown hgrow hg
                 have Z7:Aside (j+1+q=m∧w7.ownsRow w1.heap.size 5 1 (.slice (some ⟨g7,0,none⟩) (np'+nd) cap7) (np'+nd) (z00 (PRE ++ (pre ++ SD)))∧(pre ++ SD) ++ DIFS (LSX L (j+1)) (L.drop (j+1))=DIFS 0 L∧np'+nd≤21+10*(j+1)∧Below w1.heap.size w1 w7):=⟨A2.out.1,by rw [← List.append_assoc];exact hown,by rw [List.append_assoc];exact A2.out.2.2.1,by have:=A2.out;omega,R5.out.2.1.grown hgrow R5.out.2.1.size (fun k e=>(R5.out.1.lt k e).1)⟩
                 clear hown hgrow hg R5 A2))
            go_roundg q
            case measure=>exact Nat.lt_succ_self _
            case rel=>exact ⟨j+1,np'+nd,_,pre ++ SD,rfl,by first | rfl | (rw [ej]),Z7.out⟩
          · obtain ⟨i,hi⟩:∃ i,j=i+1:=⟨j - 1,by omega⟩
            obtain ⟨y,ey⟩:∃ y,L[i]?=some y:=⟨_,List.getElem?_eq_getElem (by have:=HA.out.2.1;omega)⟩
            have yy:wr.cell? ⟨b,o+i,none⟩=some (.int .u64 (y:Int)):=(hbw.cell (p:=⟨b,o+i,none⟩) hb).trans (hcc i y ey)
            have ei:wrap64 ((j:Int) - 1)=(i:Int):=by have:=HA.out.2.2.1;unfold wrap64;omega
            have him:(i:Int)<(m:Int):=by omega
            have hi0:(0:Int)<(j:Int):=by omega
            have hyx:y<x:=HS.out.2.2.2.2.2.2.2.1 i j y x (by omega) ey ex
            obtain ⟨eg1,eg2⟩:=zbW hyx (by omega)
            have hxk:x - LSX L j=x - (y+1):=by rw [hi,z3T ey]
            rw [hxk] at hdif0
            obtain ⟨xk,hxke⟩:∃ xk,x - (y+1)=xk:=⟨_,rfl⟩
            rw [hxke] at hdif0 eg2
            have hdif:=hdif0
            have cs:=z2s xk (by omega)
            have hsl:=z0O xk
            have hsn:=z2j xk
            have hsr:=z1m (X:=xk) (by omega)
            generalize x - y=xy at *
            clear hnx hxk hdif0 hbw hi ey hyx hxke
            have A2:Aside (j+1+q=m∧wr.ownsRow w1.heap.size 5 1 v np' (z00 (PRE ++ pre))∧pre ++ (z0m xk ++ DIFS (LSX L (j+1)) (L.drop (j+1)))=DIFS 0 L∧np'≤21+10*j∧Below w1.heap.size w1 wr∧(z0m xk).length=NTOP xk+1∧NTOP xk+1≤10∧(∀ y∈z0m xk,0≤y∧y≤255)∧j<2 ^ 20):=⟨by have:=A.out.1;clear ej ei eg1 eg2;omega,A.out.2.1,hdif,A.out.2.2.2.1,A.out.2.2.2.2,hsl,by have:=hsn;clear ej ei eg1 eg2;omega,hsr,by have:=HA.out.2.2.1;clear ej ei eg1 eg2;omega⟩
            have hs0:0<NTOP xk+1:=Nat.succ_pos _
            generalize hSD:z0m xk=SD at *
            generalize NTOP xk+1=nd at *
            clear A hdif hsl hsr hx62 ex hcc hb hSD hsn hjm
            go_wp2_with fail
            refine (cs _).mono ?_
            rintro e w6 ⟨g6,cap6,rfl,hown,hg,hb⟩
            clear cs yy x0 y0 y1 y2
            have R5:Aside (w6.ownsRow w1.heap.size 5 1 v np' (z00 (PRE ++ pre))∧Below w1.heap.size w1 w6∧Bytes w6 (some ⟨g6,0,none⟩) nd SD):=⟨z0o A2.out.2.1 hb,A2.out.2.2.2.2.1.trans (hb.mono A2.out.2.2.2.2.1.size),z0W hown hg A2.out.2.2.2.2.2.2.2.1⟩
            clear hown hg hb
            go_wp2_with (first
              | (at_builtin;refine z0A _ rfl (.tmp 61) (.tmp 63) rfl w1.heap.size v np' (PRE ++ pre) rfl R5.out.1 g6 0 nd cap6 SD rfl R5.out.2.2 hs0 (by have:=A2.out;omega) R5.out.2.1.size ?_;intro g7 cap7 w7 hown hgrow hg
                 have Z7:Aside (j+1+q=m∧w7.ownsRow w1.heap.size 5 1 (.slice (some ⟨g7,0,none⟩) (np'+nd) cap7) (np'+nd) (z00 (PRE ++ (pre ++ SD)))∧(pre ++ SD) ++ DIFS (LSX L (j+1)) (L.drop (j+1))=DIFS 0 L∧np'+nd≤21+10*(j+1)∧Below w1.heap.size w1 w7):=⟨A2.out.1,by rw [← List.append_assoc];exact hown,by rw [List.append_assoc];exact A2.out.2.2.1,by have:=A2.out;omega,R5.out.2.1.grown hgrow R5.out.2.1.size (fun k e=>(R5.out.1.lt k e).1)⟩
                 clear hown hgrow hg R5 A2))
            go_roundg q
            case measure=>exact Nat.lt_succ_self _
            case rel=>exact ⟨j+1,np'+nd,_,pre ++ SD,rfl,by first | rfl | (rw [ej]),Z7.out⟩
        | zero=>
          obtain rfl:j=m:=by have:=A.out.1;omega
          have hlt:¬ (j:Int)<(j:Int):=by omega
          have A3:Aside (wr.ownsRow w1.heap.size 5 1 v np' (z00 (PRE ++ DIFS 0 L))∧np'≤1000000∧Below w1.heap.size w1 wr):=by
            obtain ⟨h1,h2,h3,h4,h5⟩:=A.out
            rw [List.drop_of_length_le (by have:=HA.out.2.1;omega),DIFS,List.append_nil] at h3
            rw [h3] at h2
            exact ⟨h2,by have:=HA.out.2.2.1;omega,h5⟩
          have hb01:Below w0.heap.size w0 wr:=B1.out.trans (A3.out.2.2.mono B1.out.size)
          have cput:=zfc w1.heap.size v np' (PRE ++ DIFS 0 L) A3.out.2.1 an K cn (by have:=HA.out.2.2.2.1;omega) l wr A3.out.2.2.size A3.out.1 (HA.out.2.2.2.2.2.1.below hb01) (fun h0 b o e=>by
            obtain ⟨b',o',e',hlt',_⟩:=HA.out.2.2.2.2.2.1.2.1 h0
            rw [e] at e'
            cases e'
            exact Nat.lt_of_lt_of_le hlt' B1.out.size)
          have FZ:Aside (∀ (e:Ending) (w':World),(∃ v',e=.returned v'∧w'.ownsRow w1.heap.size 5 1 v' (np'+32*K) (z00 (PRE ++ DIFS 0 L ++ l))∧Below w1.heap.size wr w')→∃ a' c',e=.returned (.slice a' Z.length c')∧w'.ownsRow w.heap.size 5 1 (.slice a' Z.length c') Z.length (z00 Z)∧Below w.heap.size w w'):=by
            rintro e w' ⟨v',he,ho,hbw⟩
            rw [← HP.out.2] at ho
            have hlen:=z9k ho
            rw [← hlen] at ho
            obtain ⟨a',c',rfl⟩:=z2Q ho
            have b1:w.heap.size≤w1.heap.size:=Nat.le_trans HA.out.2.2.2.2.2.2.1.size B1.out.size
            exact ⟨a',c',he,z0f ho b1,(HA.out.2.2.2.2.2.2.1.trans (B1.out.mono HA.out.2.2.2.2.2.2.1.size)).trans ((A3.out.2.2.trans hbw).mono b1)⟩
          clear A hb01 y0
          go_wp2_with fail
          refine cput.mono ?_
          intro e w6 hh
          obtain ⟨a',c',rfl,ho,hbw⟩:=FZ.out e w6 hh
          have FN:Aside (ANSY w (0,Z) (.returned (.tuple #[.slice a' Z.length c',.int .i64 0])) w6):=⟨a',c',rfl,ho,hbw⟩
          clear cput hh ho hbw FZ A3 HP HS HA y1 y2
          go_wp2_with fail
          go_ret2
          exact FN.out
    · have hM2:M=(70,[]):=by
        rw [← HM.out]
        unfold MENC
        have e:=z4k hr (show K≠(z04 (TPS N) L).length by rw [hPe];exact hKP)
        rw [if_neg (by rw [e];decide),e]
      have hne1:((K:Int) == (P:Int))=false:=by simp;omega
      have hne2:((K:Int) != (P:Int))=true:=by simp;omega
      have hne3:¬ (K:Int)=(P:Int):=by omega
      unfold ANSN at cp
      rw [hPe] at cp
      clear hr hP HM hPe
      rw [hM2]
      go_enter Tryz.func28,Tryz.ntmps28
      go_wp2_with fail
      refine cp.mono ?_
      rintro e w1 ⟨ap,kp,rfl,_,hb1⟩
      obtain ⟨y0,y1,y2⟩:=CC.out w1 hb1
      have FN:Aside (Below w.heap.size w w1):=HA.out.2.2.2.2.2.2.1.trans (hb1.mono HA.out.2.2.2.2.2.2.1.size)
      clear cp hb1 x0 x1 x2 hw0 y0 y1
      go_wp2_with fail
      go_ret2
      exact ⟨none,0,rfl,⟨rfl,.inl ⟨rfl,rfl⟩⟩,FN.out⟩
  · have hM2:M=(z07 L N,[]):=by
      rw [← HM.out]
      unfold MENC
      have e:=z5h (K:=K) hr
      rw [if_neg (by rw [e];exact hr),e]
    have hP:PLCA L N=[]:=if_neg hr
    rw [hP] at cp
    rw [hM2]
    have hr1:(z07 L N != 0)=true:=by simpa using hr
    have hr2:(z07 L N == 0)=false:=by simpa using hr
    generalize z07 L N=E at *
    unfold ANSN at cp
    clear hM2 hP HM
    go_enter Tryz.func28,Tryz.ntmps28
    go_wp2_with fail
    refine cp.mono ?_
    rintro e w1 ⟨ap,kp,rfl,_,hb1⟩
    have FN:Aside (Below w.heap.size w w1):=HA.out.2.2.2.2.2.2.1.trans (hb1.mono HA.out.2.2.2.2.2.2.1.size)
    clear cp hb1 x0 x1 x2 hw0
    go_wp2_with fail
    go_ret2
    exact ⟨none,0,rfl,⟨rfl,.inl ⟨rfl,rfl⟩⟩,FN.out⟩
end Go.Proofs.YtlicfinmibbpdaaGreatDoor
