/- ManyClashes: part 22. -/
import Derived.Test.YtobaogpomcocpaaGreatDoorManyClashesP21
set_option maxRecDepth 100000
set_option maxHeartbeats 8000000
open Go.RowKit
namespace Go.Proofs.YtobaogpomcocpaaGreatDoor
theorem mJ{x y:Nat}(h:y<x)(hx:x<2 ^ 63):IntKind.u64.wrap ((x:Int) - (y:Int))=((x - y:Nat):Int)/\IntKind.u64.wrap (((x - y:Nat):Int) - 1)=((x - (y+1):Nat):Int):=by
 rw[zh,zh];omega
theorem Jm(L:List Nat)(N:Nat)(hN:N<2 ^ 64)(a:Option Addr)(m c:Nat)(an:Option Addr)(K cn:Nat)(l:List Int)(w:World)(hl:L.length=m)(hm:m<=200)(hx:∀ x∈L,x<2 ^ 64)(hK:K<=200)(hL:NUML w a L)(hF:Flat w an K l):
    Calls Tryz.prog 35 #[.agg #[.int .u64 (N:Int),.slice a m c,.slice an K cn]] w (ANSY w (MENC L N K l)):=by
  obtain⟨w0,hw0⟩:∃ w0,w.alloc (.cells #[.int .u64 (N:Int),.slice a m c,.slice an K cn] 45)=w0:=⟨_,rfl⟩
  have h1:Has w0 w.heap.size #[.int .u64 (N:Int),.slice a m c,.slice an K cn] 45:=by rw[<-hw0];exact Has.new w _ _
  have hb0:Below w.heap.size w w0:=by rw[<-hw0];exact(Below.refl _ _).alloc (Nat.le_refl _) _
  have cp:=Jl L N a m c w0 hl (by omega) hx (hL.keep hb0);have CC:Aside (∀ W,Below w0.heap.size w0 W->W.cell? ⟨w.heap.size,0,none⟩=some (.int .u64 (N:Int))/\W.cell? ⟨w.heap.size,1,none⟩=some (.slice a m c)/\W.cell? ⟨w.heap.size,2,none⟩=some (.slice an K cn)):=fun W hb=>⟨(h1.keep hb).cell 0,(h1.keep hb).cell 1,(h1.keep hb).cell 2⟩
  have HA:Aside (N<2 ^ 64/\L.length=m/\m<=200/\K<=200/\NUML w0 a L/\Flat w0 an K l/\Below w.heap.size w w0/\w.heap.size<w0.heap.size):=⟨hN,hl,hm,hK,hL.keep hb0,hF.below hb0,hb0,h1.lt⟩
  obtain⟨M,hM⟩:∃ M,MENC L N K l=M:=⟨_,rfl⟩
  rw[hM];have HM:Aside (MENC L N K l=M):=hM;obtain⟨x0,x1,x2⟩:=CC.out w0 (Below.refl _ _);clear hN hl hm hx hK hL hF h1 hb0 hM;by_cases hr:zf L N=0
  · rw [hr] at cp
    have hP:PLCA L N=zc (TPS N) L:=if_pos hr;rw[hP] at cp;obtain⟨P,hPe⟩:∃ P,(zc (TPS N) L).length=P:=⟨_,rfl⟩
    by_cases hKP:K=P
    · subst hKP
      have hM2:M=(0,MWRT L N l):=by
        rw[<-HM.out];unfold MENC;rw[if_pos (ZY hr hPe.symm)]
      have hr2:=yF hr;have c1:=Zc N HA.out.1;have c2:=Zc m (by have:=HA.out.2.2.1;omega);have hl1:=yZ N;have hl2:=yZ m;have h91:=xY N;have h92:=xY m;have hr1:=xO HA.out.1;have hr22:=xO (X:=m) (by have:=HA.out.2.2.1;omega);have eL:MWRT L N l=[78] ++ zr N ++ zr m ++ DIFS 0 L ++ l:=by unfold MWRT;rw[HA.out.2.1];simp
      rw[hM2];obtain⟨Z,hZ⟩:∃ Z,MWRT L N l=Z:=⟨_,rfl⟩
      rw[hZ] at eL ⊢;generalize hSX:zr N=SX at *
      generalize hSY:zr m=SY at *
      have hn1:0<NTOP N+1:=by omega
      have hn2:0<NTOP m+1:=by omega
      have hm1:NTOP N+1<=10:=by omega
      have hm2:NTOP m+1<=10:=by omega
      clear h91 h92 hSX hSY hM2 hZ;generalize NTOP N+1=nx at *
      generalize NTOP m+1=ny at *
      have HS:Aside (SX.length=nx/\SY.length=ny/\nx<=10/\ny<=10/\(∀ x∈SX,0<=x/\x<=255)/\(∀ x∈SY,0<=x/\x<=255)/\Z=[78] ++ SX ++ SY ++ DIFS 0 L ++ l/\RISES L/\(∀ x∈L,x<2 ^ 62)):=⟨hl1,hl2,hm1,hm2,hr1,hr22,eL,hr2.2.1,fun x hx=>by have:=hr2.2.2 x hx;have:=hr2.1;omega⟩
      have eum:=uE (x:=m) (by have:=HA.out.2.2.1;omega);clear hl1 hl2 hm1 hm2 hr1 hr22 eL hr2 hr HM;unfold ANSN at cp;rw[hPe] at cp;go_enter Tryz.func35,Tryz.ntmps35;go_wp2_with fail
      refine cp.mono ?_;rintro e w1 ⟨ap,kp,rfl,_,hb1⟩;have B1:Aside (Below w0.heap.size w0 w1):=hb1;obtain⟨y0,y1,y2⟩:=CC.out w1 hb1;have R0:Aside ((w1.alloc (.cells #[.int .u8 78] 5)).ownsRow w1.heap.size 5 1 (.slice (some ⟨w1.heap.size,0,none⟩) 1 1) 1 (za [78])/\Below w1.heap.size w1 (w1.alloc (.cells #[.int .u8 78] 5))):=⟨ZQ w1 78,(Below.refl _ _).alloc (Nat.le_refl _) _⟩
      have z0:(w1.alloc (.cells #[.int .u8 78] 5)).cell? ⟨w.heap.size,0,none⟩=some (.int .u64 (N:Int)):=(CC.out _ (B1.out.trans (R0.out.2.mono B1.out.size))).1;clear cp hb1 x0 x1 x2 hw0;go_wp2_with fail
      generalize w1.alloc (.cells #[.int .u8 78] 5)=wa at *
      refine(c1 _).mono ?_;rintro e w2 ⟨g,cap,rfl,hown,hg,hb⟩;have R1:Aside (w2.ownsRow w1.heap.size 5 1 (.slice (some ⟨w1.heap.size,0,none⟩) 1 1) 1 (za [78])/\Below w1.heap.size w1 w2/\Bytes w2 (some ⟨g,0,none⟩) nx SX):=⟨zG R0.out.1 hb,R0.out.2.trans (hb.mono R0.out.2.size),yL hown hg HS.out.2.2.2.2.1⟩
      clear hown hg hb R0 c1 y0 y1 y2 z0
      go_wp2_with (first
        | (at_builtin;refine zM _ rfl (.tmp 26) (.tmp 29) rfl w1.heap.size _ 1 [78] rfl R1.out.1 g 0 nx cap SX rfl R1.out.2.2 hn1 (by have:=HS.out.2.2.1;omega) R1.out.2.1.size ?_;intro g3 cap3 w3 hown hgrow hg
           have R2:Aside (w3.ownsRow w1.heap.size 5 1 (.slice (some ⟨g3,0,none⟩) (1+nx) cap3) (1+nx) (za ([78] ++ SX))/\Below w1.heap.size w1 w3):=⟨hown,R1.out.2.1.grown hgrow R1.out.2.1.size (fun k e=>(R1.out.1.lt k e).1)⟩
           have y1:=(CC.out w3 (B1.out.trans (R2.out.2.mono B1.out.size))).2.1;clear hown hgrow hg R1))
      refine(c2 _).mono ?_;rintro e w4 ⟨g4,cap4,rfl,hown,hg,hb⟩;have R3:Aside (w4.ownsRow w1.heap.size 5 1 (.slice (some ⟨g3,0,none⟩) (1+nx) cap3) (1+nx) (za ([78] ++ SX))/\Below w1.heap.size w1 w4/\Bytes w4 (some ⟨g4,0,none⟩) ny SY):=⟨zG R2.out.1 hb,R2.out.2.trans (hb.mono R2.out.2.size),yL hown hg HS.out.2.2.2.2.2.1⟩
      clear hown hg hb R2 c2 y1 eum
      go_wp2_with (first
        | (at_builtin;refine zM _ rfl (.tmp 31) (.tmp 36) rfl w1.heap.size _ (1+nx) ([78] ++ SX) rfl R3.out.1 g4 0 ny cap4 SY rfl R3.out.2.2 hn2 (by have:=HS.out;omega) R3.out.2.1.size ?_;intro g5 cap5 w5 hown hgrow hg
           have R4:Aside (w5.ownsRow w1.heap.size 5 1 (.slice (some ⟨g5,0,none⟩) (1+nx+ny) cap5) (1+nx+ny) (za ([78] ++ SX ++ SY))/\Below w1.heap.size w1 w5):=⟨hown,R3.out.2.1.grown hgrow R3.out.2.1.size (fun k e=>(R3.out.1.lt k e).1)⟩
           clear hown hgrow hg R3))
      have HP:Aside (1+nx+ny<=21/\Z=([78] ++ SX ++ SY) ++ DIFS 0 L ++ l):=⟨by have:=HS.out;omega,HS.out.2.2.2.2.2.2.1⟩
      generalize [78] ++ SX ++ SY=PRE at *
      generalize 1+nx+ny=np at *
      go_loopg [6,7] m (fun q s6 s7 wx=>∃ (j np':Nat) (v:Value) (pre:List Int),v=s6/\s7=.int .i64 (j:Int)/\Aside (j+q=m/\wx.ownsRow w1.heap.size 5 1 v np' (za (PRE ++ pre))/\pre ++ DIFS (LSX L j) (L.drop j)=DIFS 0 L/\np'<=21+10*j/\Below w1.heap.size w1 wx))
      case atStart=>exact⟨0,np,_,[],rfl,rfl,by omega,by simpa using R4.out.1,by simp[VL],HP.out.1,R4.out.2⟩
      case round =>
        obtain⟨j,np',v,pre,rfl,rfl,A⟩:=hrel;clear R4;obtain⟨y0,y1,y2⟩:=CC.out wr (B1.out.trans (A.out.2.2.2.2.mono B1.out.size));cases gk with
        | succ q =>
          have hjm:j<m:=by have:=A.out.1;omega
          have hlt:(j:Int)<(m:Int):=by omega
          obtain⟨x,ex⟩:∃ x,L[j]?=some x:=⟨_,List.getElem?_eq_getElem (by have:=HA.out.2.1;omega)⟩
          obtain⟨b,o,rfl,hb,hcc⟩:=HA.out.2.2.2.2.1 (by have:=HA.out.2.1;omega);have hx62:=HS.out.2.2.2.2.2.2.2.2 x (List.mem_of_getElem? ex);have hbw:Below w0.heap.size w0 wr:=B1.out.trans (A.out.2.2.2.2.mono B1.out.size);have x0:wr.cell? ⟨b,o+j,none⟩=some (.int .u64 (x:Int)):=(hbw.cell (p:=⟨b,o+j,none⟩) hb).trans (hcc j x ex);have ej:wrap64 ((j:Int)+1)=((j+1:Nat):Int):=by have:=HA.out.2.2.1;unfold wrap64;omega
          have hnx:=ZH ex
          have hdif0:pre ++ (zr (x - LSX L j) ++ DIFS (LSX L (j+1)) (L.drop (j+1)))=DIFS 0 L:=by
            have h1:=A.out.2.2.1;rw[Zr ex,DIFS] at h1;rw[hnx];exact h1
          rcases Nat.eq_zero_or_pos j with hj0 | hj0
          · have hz:¬ (0:Int)<(j:Int):=by omega
            have hz2:¬ 0<j:=by omega
            have hxk:x - LSX L j=x:=by rw[hj0,VL,Nat.sub_zero]
            rw[hxk] at hdif0;obtain⟨xk,hxke⟩:∃ xk,xk=x:=⟨_,rfl⟩
            subst hxke;have hdif:=hdif0;have cs:=Zc xk (by omega);have hsl:=yZ xk;have hsn:=xY xk;have hsr:=xO (X:=xk) (by omega);clear hnx hxk hdif0 hbw hj0;have A2:Aside (j+1+q=m/\wr.ownsRow w1.heap.size 5 1 v np' (za (PRE ++ pre))/\pre ++ (zr xk ++ DIFS (LSX L (j+1)) (L.drop (j+1)))=DIFS 0 L/\np'<=21+10*j/\Below w1.heap.size w1 wr/\(zr xk).length=NTOP xk+1/\NTOP xk+1<=10/\(∀ y∈zr xk,0<=y/\y<=255)/\j<2 ^ 20):=⟨by have:=A.out.1;clear ej;omega,A.out.2.1,hdif,A.out.2.2.2.1,A.out.2.2.2.2,hsl,by have:=hsn;clear ej;omega,hsr,by have:=HA.out.2.2.1;clear ej;omega⟩
            have hs0:0<NTOP xk+1:=Nat.succ_pos _;generalize hSD:zr xk=SD at *
            generalize NTOP xk+1=nd at *
            clear A hdif hsl hsr hx62 ex hcc hb hSD hsn hjm;go_wp2_with fail
            refine(cs _).mono ?_;rintro e w6 ⟨g6,cap6,rfl,hown,hg,hb⟩;clear cs x0 y0 y1 y2;have R5:Aside (w6.ownsRow w1.heap.size 5 1 v np' (za (PRE ++ pre))/\Below w1.heap.size w1 w6/\Bytes w6 (some ⟨g6,0,none⟩) nd SD):=⟨zG A2.out.2.1 hb,A2.out.2.2.2.2.1.trans (hb.mono A2.out.2.2.2.2.1.size),yL hown hg A2.out.2.2.2.2.2.2.2.1⟩
            clear hown hg hb
            go_wp2_with (first
              | (at_builtin;refine zM _ rfl (.tmp 61) (.tmp 63) rfl w1.heap.size v np' (PRE ++ pre) rfl R5.out.1 g6 0 nd cap6 SD rfl R5.out.2.2 hs0 (by have:=A2.out;omega) R5.out.2.1.size ?_;intro g7 cap7 w7 hown hgrow hg
                 have Z7:Aside (j+1+q=m/\w7.ownsRow w1.heap.size 5 1 (.slice (some ⟨g7,0,none⟩) (np'+nd) cap7) (np'+nd) (za (PRE ++ (pre ++ SD)))/\(pre ++ SD) ++ DIFS (LSX L (j+1)) (L.drop (j+1))=DIFS 0 L/\np'+nd<=21+10*(j+1)/\Below w1.heap.size w1 w7):=⟨A2.out.1,by rw[<-List.append_assoc];exact hown,by rw[List.append_assoc];exact A2.out.2.2.1,by have:=A2.out;omega,R5.out.2.1.grown hgrow R5.out.2.1.size (fun k e=>(R5.out.1.lt k e).1)⟩
                 clear hown hgrow hg R5 A2))
            go_roundg q
            case measure=>exact Nat.lt_succ_self _
            case rel=>exact⟨j+1,np'+nd,_,pre ++ SD,rfl,by first | rfl | (rw[ej]),Z7.out⟩
          · obtain⟨i,hi⟩:∃ i,j=i+1:=⟨j - 1,by omega⟩
            obtain⟨y,ey⟩:∃ y,L[i]?=some y:=⟨_,List.getElem?_eq_getElem (by have:=HA.out.2.1;omega)⟩
            have yy:wr.cell? ⟨b,o+i,none⟩=some (.int .u64 (y:Int)):=(hbw.cell (p:=⟨b,o+i,none⟩) hb).trans (hcc i y ey);have ei:wrap64 ((j:Int) - 1)=(i:Int):=by have:=HA.out.2.2.1;unfold wrap64;omega
            have him:(i:Int)<(m:Int):=by omega
            have hi0:(0:Int)<(j:Int):=by omega
            have hyx:y<x:=HS.out.2.2.2.2.2.2.2.1 i j y x (by omega) ey ex;obtain⟨eg1,eg2⟩:=mJ hyx (by omega);have hxk:x - LSX L j=x - (y+1):=by rw[hi,ZH ey]
            rw[hxk] at hdif0;obtain⟨xk,hxke⟩:∃ xk,x - (y+1)=xk:=⟨_,rfl⟩
            rw[hxke] at hdif0 eg2;have hdif:=hdif0;have cs:=Zc xk (by omega);have hsl:=yZ xk;have hsn:=xY xk;have hsr:=xO (X:=xk) (by omega);generalize x - y=xy at *
            clear hnx hxk hdif0 hbw hi ey hyx hxke;have A2:Aside (j+1+q=m/\wr.ownsRow w1.heap.size 5 1 v np' (za (PRE ++ pre))/\pre ++ (zr xk ++ DIFS (LSX L (j+1)) (L.drop (j+1)))=DIFS 0 L/\np'<=21+10*j/\Below w1.heap.size w1 wr/\(zr xk).length=NTOP xk+1/\NTOP xk+1<=10/\(∀ y∈zr xk,0<=y/\y<=255)/\j<2 ^ 20):=⟨by have:=A.out.1;clear ej ei eg1 eg2;omega,A.out.2.1,hdif,A.out.2.2.2.1,A.out.2.2.2.2,hsl,by have:=hsn;clear ej ei eg1 eg2;omega,hsr,by have:=HA.out.2.2.1;clear ej ei eg1 eg2;omega⟩
            have hs0:0<NTOP xk+1:=Nat.succ_pos _;generalize hSD:zr xk=SD at *
            generalize NTOP xk+1=nd at *
            clear A hdif hsl hsr hx62 ex hcc hb hSD hsn hjm;go_wp2_with fail
            refine(cs _).mono ?_;rintro e w6 ⟨g6,cap6,rfl,hown,hg,hb⟩;clear cs yy x0 y0 y1 y2;have R5:Aside (w6.ownsRow w1.heap.size 5 1 v np' (za (PRE ++ pre))/\Below w1.heap.size w1 w6/\Bytes w6 (some ⟨g6,0,none⟩) nd SD):=⟨zG A2.out.2.1 hb,A2.out.2.2.2.2.1.trans (hb.mono A2.out.2.2.2.2.1.size),yL hown hg A2.out.2.2.2.2.2.2.2.1⟩
            clear hown hg hb
            go_wp2_with (first
              | (at_builtin;refine zM _ rfl (.tmp 61) (.tmp 63) rfl w1.heap.size v np' (PRE ++ pre) rfl R5.out.1 g6 0 nd cap6 SD rfl R5.out.2.2 hs0 (by have:=A2.out;omega) R5.out.2.1.size ?_;intro g7 cap7 w7 hown hgrow hg
                 have Z7:Aside (j+1+q=m/\w7.ownsRow w1.heap.size 5 1 (.slice (some ⟨g7,0,none⟩) (np'+nd) cap7) (np'+nd) (za (PRE ++ (pre ++ SD)))/\(pre ++ SD) ++ DIFS (LSX L (j+1)) (L.drop (j+1))=DIFS 0 L/\np'+nd<=21+10*(j+1)/\Below w1.heap.size w1 w7):=⟨A2.out.1,by rw[<-List.append_assoc];exact hown,by rw[List.append_assoc];exact A2.out.2.2.1,by have:=A2.out;omega,R5.out.2.1.grown hgrow R5.out.2.1.size (fun k e=>(R5.out.1.lt k e).1)⟩
                 clear hown hgrow hg R5 A2))
            go_roundg q
            case measure=>exact Nat.lt_succ_self _
            case rel=>exact⟨j+1,np'+nd,_,pre ++ SD,rfl,by first | rfl | (rw[ej]),Z7.out⟩
        | zero=>
          obtain rfl:j=m:=by have:=A.out.1;omega
          have hlt:¬ (j:Int)<(j:Int):=by omega
          have A3:Aside (wr.ownsRow w1.heap.size 5 1 v np' (za (PRE ++ DIFS 0 L))/\np'<=1000000/\Below w1.heap.size w1 wr):=by
            obtain⟨h1,h2,h3,h4,h5⟩:=A.out;rw[List.drop_of_length_le (by have:=HA.out.2.1;omega),DIFS,List.append_nil] at h3;rw[h3] at h2;exact⟨h2,by have:=HA.out.2.2.1;omega,h5⟩
          have hb01:Below w0.heap.size w0 wr:=B1.out.trans (A3.out.2.2.mono B1.out.size)
          have cput:=z2r w1.heap.size v np' (PRE ++ DIFS 0 L) A3.out.2.1 an K cn (by have:=HA.out.2.2.2.1;omega) l wr A3.out.2.2.size A3.out.1 (HA.out.2.2.2.2.2.1.below hb01) (fun h0 b o e=>by
            obtain⟨b',o',e',hlt',_⟩:=HA.out.2.2.2.2.2.1.2.1 h0;rw[e] at e';cases e';exact Nat.lt_of_lt_of_le hlt' B1.out.size)
          have FZ:Aside (∀ (e:Ending) (w':World),(∃ v',e=.returned v'/\w'.ownsRow w1.heap.size 5 1 v' (np'+32*K) (za (PRE ++ DIFS 0 L ++ l))/\Below w1.heap.size wr w')->∃ a' c',e=.returned (.slice a' Z.length c')/\w'.ownsRow w.heap.size 5 1 (.slice a' Z.length c') Z.length (za Z)/\Below w.heap.size w w'):=by
            rintro e w' ⟨v',he,ho,hbw⟩;rw[<-HP.out.2] at ho;have hlen:=uw ho;rw[<-hlen] at ho;obtain⟨a',c',rfl⟩:=qU ho;have b1:w.heap.size<=w1.heap.size:=Nat.le_trans HA.out.2.2.2.2.2.2.1.size B1.out.size;exact⟨a',c',he,zq ho b1,(HA.out.2.2.2.2.2.2.1.trans (B1.out.mono HA.out.2.2.2.2.2.2.1.size)).trans ((A3.out.2.2.trans hbw).mono b1)⟩
          clear A hb01 y0;go_wp2_with fail
          refine cput.mono ?_;intro e w6 hh;obtain⟨a',c',rfl,ho,hbw⟩:=FZ.out e w6 hh;have FN:Aside (ANSY w (0,Z) (.returned (.tuple #[.slice a' Z.length c',.int .i64 0])) w6):=⟨a',c',rfl,ho,hbw⟩
          clear cput hh ho hbw FZ A3 HP HS HA y1 y2;go_wp2_with fail
          go_ret2;exact FN.out
    · have hM2:M=(70,[]):=by
        rw[<-HM.out];unfold MENC;have e:=Y0 hr (show K≠(zc (TPS N) L).length by rw[hPe];exact hKP);rw[if_neg (by rw[e];decide),e]
      have hne1:((K:Int) == (P:Int))=false:=by simp;omega
      have hne2:((K:Int) != (P:Int))=true:=by simp;omega
      have hne3:¬ (K:Int)=(P:Int):=by omega
      unfold ANSN at cp;rw[hPe] at cp;clear hr hP HM hPe;rw[hM2];go_enter Tryz.func35,Tryz.ntmps35;go_wp2_with fail
      refine cp.mono ?_;rintro e w1 ⟨ap,kp,rfl,_,hb1⟩;obtain⟨y0,y1,y2⟩:=CC.out w1 hb1;have FN:Aside (Below w.heap.size w w1):=HA.out.2.2.2.2.2.2.1.trans (hb1.mono HA.out.2.2.2.2.2.2.1.size);clear cp hb1 x0 x1 x2 hw0 y0 y1;go_wp2_with fail
      go_ret2;exact⟨none,0,rfl,⟨rfl,.inl ⟨rfl,rfl⟩⟩,FN.out⟩
  · have hM2:M=(zf L N,[]):=by
      rw[<-HM.out];unfold MENC;have e:=Xn (K:=K) hr;rw[if_neg (by rw[e];exact hr),e]
    have hP:PLCA L N=[]:=if_neg hr;rw[hP] at cp;rw[hM2];have hr1:(zf L N != 0)=true:=by simpa using hr
    have hr2:(zf L N == 0)=false:=by simpa using hr
    generalize zf L N=E at *
    unfold ANSN at cp;clear hM2 hP HM;go_enter Tryz.func35,Tryz.ntmps35;go_wp2_with fail
    refine cp.mono ?_;rintro e w1 ⟨ap,kp,rfl,_,hb1⟩;have FN:Aside (Below w.heap.size w w1):=HA.out.2.2.2.2.2.2.1.trans (hb1.mono HA.out.2.2.2.2.2.2.1.size);clear cp hb1 x0 x1 x2 hw0;go_wp2_with fail
    go_ret2;exact⟨none,0,rfl,⟨rfl,.inl ⟨rfl,rfl⟩⟩,FN.out⟩
theorem z0s(b0 b1 b2 b3:Nat)(w:World)(G:World->Prop)(B:Int->World->Prop)
  (hdo:Calls Tryz.prog 73 #[.pointer (some ⟨b0,0,none⟩),.pointer (some ⟨b1,0,none⟩),.pointer (some ⟨b2,0,none⟩),.pointer (some ⟨b3,0,none⟩)] (w.alloc (.cells #[.int .i64 0] 29)) fun e w'=>(e=.returned (.tuple #[])/\G w')\/∃ x,e=.panicked (zE x)/\B x w')
  (hG:∀ w',G w'->Has w' w.heap.size #[.int .i64 0] 29)(hB:∀ x w',B x w'->Has w' w.heap.size #[.int .i64 0] 29):
  Calls Tryz.prog 49 #[.func (.func 73) #[] #[.pointer (some ⟨b0,0,none⟩),.pointer (some ⟨b1,0,none⟩),.pointer (some ⟨b2,0,none⟩),.pointer (some ⟨b3,0,none⟩)]] w (xI w G B):=by
 have hmf:∀ (fn:Fn) (first cap:Array Value) (w:World),(Instr.makeFunc fn first cap).run Tryz.prog w=.ok (.func fn first cap) w:=fun _ _ _ _=>rfl;have HG:Aside (∀ w',G w'->Has w' w.heap.size #[.int .i64 0] 29):=hG;have HB:Aside (∀ x w',B x w'->Has w' w.heap.size #[.int .i64 0] 29):=hB;clear hG hB;go_enter_defers Tryz.func49,Tryz.ntmps49
 go_wp2_with fail
 refine hdo.mono ?_;rintro e w1 (⟨rfl,h1⟩ | ⟨x,rfl,h1⟩)
 ·clear hdo
  have hh:=HG.out w1 h1;have c0:=hh.cell 0;have f0:=hh.frozen 0;have G1:Aside (G w1):=h1;clear h1;go_wp2_with fail
  refine leaves_cons (f:=85) (args:=#[.pointer (some ⟨w.heap.size,0,none⟩)]) (by simp) (by simp[go_sem]) ?_;refine(Zj ⟨w.heap.size,0,none⟩ _).mono ?_;rintro e u' w'' ⟨rfl,rfl,rfl⟩;have c1:=(hh.set 0 (.int .i64 0)).cell 0;simp[Leaves,settle,results,Tryz.results49,go_sem,c1];exact .inl ⟨rfl,w1,G1.out,rfl⟩
 ·have hh:=HB.out x w1 h1
  have c0:=hh.cell 0;have f0:=hh.frozen 0;refine leaves_cons (f:=85) (args:=#[.pointer (some ⟨w.heap.size,0,none⟩)]) (by simp) (by simp[go_sem]) ?_;refine(jV ⟨w.heap.size,0,none⟩ 0 x [] w1 c0 f0).mono ?_;rintro e u' w'' ⟨rfl,rfl,rfl⟩;have c1:=(hh.set 0 (.int .i64 x)).cell 0;simp[Leaves,settle,results,Tryz.results49,go_sem,c1];exact .inr ⟨x,w1,rfl,h1,rfl⟩
def MCE(L:List Nat)(N K nl:Nat):Int:=if MWA L N K≠0 then MWA L N K else if nl≠L.length then 70 else 0
theorem Zt{L:List Nat}{N K nl:Nat}(h:MWA L N K≠0):MCE L N K nl=MWA L N K:=if_pos h
theorem jr{L:List Nat}{N K nl:Nat}(h:MWA L N K=0)(hn:nl≠L.length):MCE L N K nl=70:=by
 unfold MCE;rw[if_neg (by simpa using h),if_pos hn]
theorem Yg{L:List Nat}{N K nl:Nat}(h:MWA L N K=0)(hn:nl=L.length):MCE L N K nl=0:=by
 unfold MCE;rw[if_neg (by simpa using h),if_neg (by simpa using hn)]
def MCL(d:Int)(L:List Nat)(N K nl:Nat)(lv nd:List Int):Int × Nat × List Int:=if MCE L N K nl=0 then (0,PC N,MUPS d (TPS N) L lv nd) else (MCE L N K nl,0,[])
structure CLMD (w w':World) (b3 n:Nat) (Z:List Int):Prop where
 row:∃ v,Has w' b3 #[v] 26/\w'.ownsRow w.heap.size 23 32 v n (za Z)
 keep:∀ b,b<w.heap.size->b≠b3->w'.heap[b]?=w.heap[b]?
 below:Below b3 w w'
theorem Gh(d:Int)(L:List Nat)(N:Nat)(a:Option Addr)(m c:Nat)(an:Option Addr)(K cn:Nat)(al:Option Addr)(nl cl:Nat)(lv nd:List Int)(b0 b1 b2 b3:Nat)(w:World)(hl:L.length=m)(hm:m<2 ^ 20)(hc:m<=c)(hnil:a=none->c=0)(hbl:∀ x,a=some x->x.block<w.heap.size/\x.spot=none)(hK:K<2 ^ 20)(hL:NUML w a L)
  (hcn:K<=cn)(hna:∀ x,an=some x->x.block<w.heap.size)(hFn:Flat w an K nd)(hcl:nl<=cl)(hla:∀ x,al=some x->x.block<w.heap.size)(hFl:Flat w al nl lv)(hT:Tabled w)(hX:HX.Tabled w)(hw0:0<w.heap.size)
  (h0:Has w b0 (MBOX N a m c an K cn) 45)(h1:Has w b1 #[.slice al nl cl] 26)(h2:Has w b2 #[.int .i64 d] 3)(h3:Has w b3 #[.slice none 0 0] 26):
  Calls Tryz.prog 73 #[.pointer (some ⟨b0,0,none⟩),.pointer (some ⟨b1,0,none⟩),.pointer (some ⟨b2,0,none⟩),.pointer (some ⟨b3,0,none⟩)] w fun e w'=>
   (e=.returned (.tuple #[])/\(MCE L N K nl=0/\CLMD w w' b3 (PC N) (MUPS d (TPS N) L lv nd)))\/∃ x,e=.panicked (zE x)/\(x=MCE L N K nl/\x≠0/\Below w.heap.size w w'):=by
 have cm:=Ju L N a m c an K cn w hl hm hc hnil hbl hK hL hT hw0;have hM:(MBOX N a m c an K cn)=#[.int .u64 (N:Int),.slice a m c,.slice an K cn]:=rfl;have x0:w.cell? ⟨b0,0,none⟩=some (.int .u64 (N:Int)):=h0.cell 0;have x1:w.cell? ⟨b0,1,none⟩=some (.slice a m c):=h0.cell 1;have x2:w.cell? ⟨b0,2,none⟩=some (.slice an K cn):=h0.cell 2;have HH:Aside (Has w b0 (MBOX N a m c an K cn) 45/\Has w b1 #[.slice al nl cl] 26/\Has w b2 #[.int .i64 d] 3/\Has w b3 #[.slice none 0 0] 26):=⟨h0,h1,h2,h3⟩
 have HA:Aside (L.length=m/\m<2 ^ 20/\m<=c/\(a=none->c=0)/\(∀ x,a=some x->x.block<w.heap.size/\x.spot=none)/\NUML w a L):=⟨hl,hm,hc,hnil,hbl,hL⟩
 have HB:Aside (K<=cn/\(∀ x,an=some x->x.block<w.heap.size)/\Flat w an K nd/\nl<=cl/\(∀ x,al=some x->x.block<w.heap.size)/\Flat w al nl lv/\Tabled w/\HX.Tabled w/\0<w.heap.size):=⟨hcn,hna,hFn,hcl,hla,hFl,hT,hX,hw0⟩
 clear hl hm hc hnil hbl hK hL hcn hna hFn hcl hla hFl hT hX hw0 h0 h1 h2 h3;rw[hM] at cm;go_enter Tryz.func73,Tryz.ntmps73;go_wp2_with fail
 refine cm.mono ?_;rintro e w1 ⟨hb1,(⟨hr,rfl⟩ | ⟨hr,rfl⟩)⟩
 ·clear cm x0 x1 x2
  obtain⟨q1,q2⟩:=Ye hr;have k0:=HH.out.1.keep hb1;have k1:=HH.out.2.1.keep hb1;have k2:=HH.out.2.2.1.keep hb1;have x0:w1.cell? ⟨b0,0,none⟩=some (.int .u64 (N:Int)):=k0.cell 0;have x1:w1.cell? ⟨b0,1,none⟩=some (.slice a m c):=k0.cell 1;have x2:w1.cell? ⟨b0,2,none⟩=some (.slice an K cn):=k0.cell 2;have x3:w1.cell? ⟨b1,0,none⟩=some (.slice al nl cl):=k1.cell 0;have x4:w1.cell? ⟨b2,0,none⟩=some (.int .i64 d):=k2.cell 0;by_cases hnl:nl=m
  ·subst hnl
   obtain⟨r1,r2,r3⟩:=yF q1;obtain⟨p1,p2,p3,p4,p5,p6⟩:=HA.out;obtain⟨s1,s2,s3,s4,s5,s6,s7,s8,s9⟩:=HB.out
   have cc:=gM d L N a nl c al cl an K cn lv nd w1 (by omega) p1 p2 r2 r3 p3 p4 (fun x e=>⟨Nat.lt_of_lt_of_le (p5 x e).1 hb1.size,(p5 x e).2⟩) (fun hp=>by
    obtain⟨b,o,e,hlt,hcc⟩:=p6 hp;exact⟨b,o,e,Nat.lt_of_lt_of_le hlt hb1.size,fun i x hx=>(hb1.cell (p:=⟨b,o+i,none⟩) hlt).trans (hcc i x hx)⟩) s4 (fun x e=>Nat.lt_of_lt_of_le (s5 x e) hb1.size) (s6.below hb1) s1 (fun x e=>Nat.lt_of_lt_of_le (s2 x e) hb1.size) (s3.below hb1) q2 (s7.below s9 hb1) (s8.below hb1) (by have:=hb1.size;omega)
   rw[hM] at cc;have HR:Aside (MCE L N K nl=0/\Below w.heap.size w w1):=⟨Yg hr p1.symm,hb1⟩
   clear hr q1 q2 r1 r2 r3 hb1 k0 k1 k2 p1 p2 p3 p4 p5 p6 s1 s2 s3 s4 s5 s6 s7 s8 s9 HA HB;go_wp2_with fail
   refine cc.mono ?_;rintro e w2 ⟨av,cv,rfl,hown,hb2⟩;clear cc x0 x1 x2 x3 x4;generalize hvv:Value.slice av (PC N) cv=v at *
   have hw2:Below w.heap.size w w2:=HR.out.2.trans (hb2.mono HR.out.2.size);have k3:=HH.out.2.2.2.keep hw2;have c3:=k3.cell 0;have f3:=k3.frozen 0
   have FN:Aside (CLMD w (w2.setCell ⟨b3,0,none⟩ v) b3 (PC N) (MUPS d (TPS N) L lv nd)):=by
    have hlt:=HH.out.2.2.2.lt;refine⟨⟨v,k3.set 0 v,zq (ownsRow_setCell_below hown (a:=⟨b3,0,none⟩) (by show b3<w1.heap.size;have:=HR.out.2.size;omega) _) HR.out.2.size⟩,fun b hb hne=>(Below.heap_setCell _ _ _ _ (by exact hne)).trans (hw2.block b hb),?_⟩;exact(hw2.mono (Nat.le_of_lt hlt)).setCell (p:=⟨b3,0,none⟩) (Nat.le_refl _) _
   subst hvv;clear hown hb2 hw2 k3 HH;go_wp2_with fail
   exact bodyPost_end (v:=.tuple #[]) (by simp[results,Tryz.f73]) rfl (.inl ⟨rfl,HR.out.1,FN.out⟩)
  ·have hne:((nl:Int) == (m:Int))=false:=beq_eq_false_iff_ne.2 (by omega)
   have FN:Aside (MCE L N K nl=70/\Below w.heap.size w w1):=⟨jr hr (by rw[HA.out.1];exact hnl),hb1⟩
   clear hr q1 q2 hb1 k0 k1 k2 HA HB HH hnl;go_wp2_with fail
   exact⟨rfl,.inr ⟨70,rfl,FN.out.1.symm,by decide,FN.out.2⟩⟩
 ·exact⟨rfl,.inr ⟨_,rfl,(Zt hr).symm,hr,hb1⟩⟩
def ANSC(w:World)(A:Int × Nat × List Int)(e:Ending)(w':World):Prop:=∃ a c,e=.returned (.tuple #[.slice a A.2.1 c,.int .i64 A.1])/\w'.ownsRow w.heap.size 23 32 (.slice a A.2.1 c) A.2.1 (za A.2.2)/\Below w.heap.size w w'
theorem U6(d:Int)(L:List Nat)(N:Nat)(a:Option Addr)(m c:Nat)(an:Option Addr)(K cn:Nat)(al:Option Addr)(nl cl:Nat)(lv nd:List Int)(w:World)(hl:L.length=m)(hm:m<2 ^ 20)(hc:m<=c)(hnil:a=none->c=0)(hbl:∀ x,a=some x->x.block<w.heap.size/\x.spot=none)(hK:K<2 ^ 20)(hL:NUML w a L)
    (hcn:K<=cn)(hna:∀ x,an=some x->x.block<w.heap.size)(hFn:Flat w an K nd)(hcl:nl<=cl)(hla:∀ x,al=some x->x.block<w.heap.size)(hFl:Flat w al nl lv)(hT:Tabled w)(hX:HX.Tabled w)(hw0:0<w.heap.size):
    Calls Tryz.prog 42 #[.int .i64 d,.slice al nl cl,.agg (MBOX N a m c an K cn)] w (ANSC w (MCL d L N K nl lv nd)):=by
  have hmf:∀ (fn:Fn) (first cap:Array Value) (w:World),(Instr.makeFunc fn first cap).run Tryz.prog w=.ok (.func fn first cap) w:=fun _ _ _ _=>rfl;obtain⟨w1,e1⟩:∃ w1,w.alloc (.cells #[.int .i64 d] 3)=w1:=⟨_,rfl⟩
  obtain⟨w2,e2⟩:∃ w2,w1.alloc (.cells #[.slice al nl cl] 26)=w2:=⟨_,rfl⟩
  obtain⟨w3,e3⟩:∃ w3,w2.alloc (.cells (MBOX N a m c an K cn) 45)=w3:=⟨_,rfl⟩
  obtain⟨w4,e4⟩:∃ w4,w3.alloc (.cells #[.slice none 0 0] 26)=w4:=⟨_,rfl⟩
  obtain⟨w5,e5⟩:∃ w5,w4.alloc (.cells #[.int .i64 0] 29)=w5:=⟨_,rfl⟩
  have s1:w1.heap.size=w.heap.size+1:=by rw[<-e1];simp
  have s2:w2.heap.size=w.heap.size+2:=by rw[<-e2];simp;omega
  have s3:w3.heap.size=w.heap.size+3:=by rw[<-e3];simp;omega
  have s4:w4.heap.size=w.heap.size+4:=by rw[<-e4];simp;omega
  have s5:w5.heap.size=w.heap.size+5:=by rw[<-e5];simp;omega
  have hb5:Below w.heap.size w w5:=by
    rw[<-e5,<-e4,<-e3,<-e2,<-e1];exact(((((Below.refl _ _).alloc (Nat.le_refl _) _).alloc (by simp) _).alloc (by simp;omega) _).alloc (by simp;omega) _).alloc (by simp;omega) _
  have h2:Has w5 w.heap.size #[.int .i64 d] 3:=by
    rw[<-e5,<-e4,<-e3,<-e2,<-e1];exact((((Has.new w _ _).alloc _).alloc _).alloc _).alloc _
  have h1:Has w5 w1.heap.size #[.slice al nl cl] 26:=by
    rw[<-e5,<-e4,<-e3,<-e2];exact(((Has.new w1 _ _).alloc _).alloc _).alloc _
  have h0:Has w5 w2.heap.size (MBOX N a m c an K cn) 45:=by
    rw[<-e5,<-e4,<-e3];exact((Has.new w2 _ _).alloc _).alloc _
  have h3:Has w5 w3.heap.size #[.slice none 0 0] 26:=by
    rw[<-e5,<-e4];exact(Has.new w3 _ _).alloc _
  have h4:Has w5 w4.heap.size #[.int .i64 0] 29:=by
    rw[<-e5];exact Has.new w4 _ _
  have hL5:NUML w5 a L:=fun hp=>by
    obtain⟨b,o,e,hlt,hcc⟩:=hL hp;exact⟨b,o,e,by omega,fun i x hx=>(hb5.cell (p:=⟨b,o+i,none⟩) hlt).trans (hcc i x hx)⟩
  have cd:=Gh d L N a m c an K cn al nl cl lv nd w2.heap.size w1.heap.size w.heap.size w3.heap.size w5 hl hm hc hnil (fun x e=>⟨by have:=(hbl x e).1;omega,(hbl x e).2⟩) hK hL5 hcn (fun x e=>by have:=hna x e;omega) (hFn.below hb5) hcl (fun x e=>by have:=hla x e;omega) (hFl.below hb5) (hT.below hw0 hb5) (hX.below hb5) (by omega) h0 h1 h2 h3;rw[<-e5] at cd
  have cf:=z0s w2.heap.size w1.heap.size w.heap.size w3.heap.size w4 _ _ cd
    (fun w' ⟨_,ht⟩=>by
      rw[e5] at ht;exact(ht.keep w4.heap.size (by omega) (by omega)).trans h4)
    (fun x w' ⟨_,_,hb⟩=>by rw[e5] at hb;exact h4.keep hb)
  rw[e5] at cf
  have FIN:Aside (∀ e w',xI w4 (fun w'=>MCE L N K nl=0/\CLMD w5 w' w3.heap.size (PC N) (MUPS d (TPS N) L lv nd)) (fun x w'=>x=MCE L N K nl/\x≠0/\Below w5.heap.size w5 w') e w'->e=.returned (.int .i64 (MCL d L N K nl lv nd).1)/\Below w.heap.size w w'/\∃ a' c',Has w' w3.heap.size #[.slice a' (MCL d L N K nl lv nd).2.1 c'] 26/\w'.ownsRow w.heap.size 23 32 (.slice a' (MCL d L N K nl lv nd).2.1 c') (MCL d L N K nl lv nd).2.1 (za (MCL d L N K nl lv nd).2.2)):=by
    rintro e w' (⟨rfl,wx,⟨hr,ht⟩,rfl⟩ | ⟨x,wx,rfl,⟨rfl,hx,hbx⟩,rfl⟩)
    · have hP:MCL d L N K nl lv nd=(0,PC N,MUPS d (TPS N) L lv nd):=if_pos hr
      obtain⟨v,hv,hown⟩:=ht.row;obtain⟨a',c',rfl⟩:=qU hown;rw[hP];refine⟨rfl,?_,a',c',?_,?_⟩
      · exact((hb5.trans (ht.below.mono (by omega)))).setCell (by show w.heap.size<=w4.heap.size;omega) _
      · exact hv.other (by show w3.heap.size≠w4.heap.size;omega) _
      · exact zq (ownsRow_setCell_below hown (a:=⟨w4.heap.size,0,none⟩) (by show w4.heap.size<w5.heap.size;omega) _) (by omega)
    · have hP:MCL d L N K nl lv nd=(MCE L N K nl,0,[]):=if_neg hx
      rw[hP];refine⟨rfl,(hb5.trans (hbx.mono hb5.size)).setCell (by show w.heap.size<=w4.heap.size;omega) _,none,0,?_,?_⟩
      · exact(h3.keep hbx).other (by show w3.heap.size≠w4.heap.size;omega) _
      · exact⟨rfl,.inl ⟨rfl,rfl⟩⟩
  have hM:(MBOX N a m c an K cn)=#[.int .u64 (N:Int),.slice a m c,.slice an K cn]:=rfl;rw[hM] at e3;clear cd h0 h1 h2 h3 h4 hL5 hb5 hl hm hc hnil hbl hL hFl hFn hT hX hcn hna hcl hla s1 s2 s3 s4 s5 e5 hw0 hK;generalize MCL d L N K nl lv nd=A at *
  go_enter Tryz.func42,Tryz.ntmps42;rw[hM];go_wp2_with fail
  refine cf.mono ?_;intro e w6 hh;obtain⟨rfl,hb6,a',c',hv,hown⟩:=FIN.out e w6 hh;have x0:=hv.cell 0;have FN:Aside (ANSC w A (.returned (.tuple #[.slice a' A.2.1 c',.int .i64 A.1])) w6):=⟨a',c',rfl,hown,hb6⟩
  clear hh hb6 hv hown FIN cf;go_wp2_with fail
  go_ret2;exact FN.out
end Go.Proofs.YtobaogpomcocpaaGreatDoor
