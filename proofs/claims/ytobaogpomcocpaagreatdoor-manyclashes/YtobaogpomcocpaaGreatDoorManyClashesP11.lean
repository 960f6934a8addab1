/- ManyClashes: part 11. -/
import Derived.Test.YtobaogpomcocpaaGreatDoorManyClashesP10
set_option maxRecDepth 100000
set_option maxHeartbeats 8000000
open Go.RowKit
namespace Go.Proofs.YtobaogpomcocpaaGreatDoor
def DIFS:Nat->List Nat->List Int
 | _,[]=>[]
 | k,x :: l=>zr (x - k) ++ DIFS (x+1) l
def MWRT(L:List Nat)(N:Nat)(l:List Int):List Int:=78 :: (zr N ++ zr L.length ++ DIFS 0 L ++ l)
def LSX(L:List Nat)(j:Nat):Nat:=match AHD L j with | none=>0 | some y=>y+1
theorem VL(L:List Nat):LSX L 0=0:=rfl
theorem ZH{L:List Nat}{j x:Nat}(h:L[j]?=some x):LSX L (j+1)=x+1:=by
 unfold LSX;rw[show AHD L (j+1)=some x from h]
theorem z2j{L:List Nat}(hR:RISES L){j x:Nat}(h:L[j]?=some x):LSX L j<=x:=by
 cases j with
 | zero=>exact Nat.zero_le _
 | succ i=>
   have hi:i<L.length:=by have:=(List.getElem?_eq_some_iff.1 h).1;omega
   have e:=List.getElem?_eq_getElem hi;rw[ZH e];exact hR i (i+1) _ _ (by omega) e h
def MBOX(N:Nat)(a:Option Addr)(m c:Nat)(an:Option Addr)(K cn:Nat):Array Value:=#[.int .u64 (N:Int),.slice a m c,.slice an K cn]
theorem z1x{x k:Nat}(h:k<=x)(hx:x<2 ^ 64):IntKind.u64.wrap ((x:Int) - (k:Int))=((x - k:Nat):Int):=by
 rw[zh];omega
theorem z2k{x:Nat}(hx:x<2 ^ 63):IntKind.u64.wrap ((x:Int)+1)=((x+1:Nat):Int):=by
 rw[zh];omega
theorem uE{x:Nat}(hx:x<2 ^ 63):IntKind.u64.wrap (x:Int)=(x:Int):=by
 rw[zh];omega
theorem Uw(L:List Nat)(N:Nat)(hN:N<2 ^ 64)(a:Option Addr)(m c:Nat)(an:Option Addr)(K cn:Nat)(l:List Int)(w:World)(hl:L.length=m)(hm:m<2 ^ 20)(hK:K<2 ^ 20)(hR:RISES L)(hx:∀ x∈L,x<2 ^ 62)(hL:NUML w a L)(hF:Flat w an K l):
  Calls Tryz.prog 56 #[.agg (MBOX N a m c an K cn)] w fun e w'=>∃ v,e=.returned v/\w'.ownsRow w.heap.size 5 1 v (MWRT L N l).length (za (MWRT L N l))/\Below w.heap.size w w':=by
 have c1:=Xd N hN;have c2:=Xd m (by omega);have hl1:=yZ N;have hl2:=yZ m;have h91:=xY N;have h92:=xY m;have hr1:=xO hN;have hr2:=xO (X:=m) (by omega);have eL:MWRT L N l=[78] ++ zr N ++ zr m ++ DIFS 0 L ++ l:=by unfold MWRT;rw[hl];simp
 obtain⟨Z,hZ⟩:∃ Z,MWRT L N l=Z:=⟨_,rfl⟩
 rw[hZ];obtain⟨NZ,hNZ⟩:∃ N,Z.length=N:=⟨_,rfl⟩
 rw[hNZ];generalize hSX:zr N=SX at *
 generalize hSY:zr m=SY at *
 have hn1:0<NTOP N+1:=by omega
 have hn2:0<NTOP m+1:=by omega
 have hm1:NTOP N+1<=10:=by omega
 have hm2:NTOP m+1<=10:=by omega
 clear h91 h92 hSX hSY;generalize NTOP N+1=nx at *
 generalize NTOP m+1=ny at *
 have HA:Aside (Flat w an K l/\K<2 ^ 20/\SX.length=nx/\SY.length=ny/\nx<=10/\ny<=10/\(∀ x∈SX,0<=x/\x<=255)/\(∀ x∈SY,0<=x/\x<=255)):=⟨hF,hK,hl1,hl2,hm1,hm2,hr1,hr2⟩
 have HL:Aside ([78] ++ SX ++ SY ++ DIFS 0 L ++ l=Z/\Z.length=NZ):=⟨by rw[<-hZ,eL],hNZ⟩
 have HI:Aside (L.length=m/\m<2 ^ 20/\RISES L/\(∀ x∈L,x<2 ^ 62)/\NUML w a L):=⟨hl,hm,hR,hx,hL⟩
 have eum:=uE (x:=m) (by omega);clear hF hK hl1 hl2 hm1 hm2 hr1 hr2 hZ hNZ hN eL hl hm hR hx hL;obtain⟨w0,hw0⟩:∃ w0,w.alloc (.cells (MBOX N a m c an K cn) 45)=w0:=⟨_,rfl⟩
 have h1:Has w0 w.heap.size (MBOX N a m c an K cn) 45:=by rw[<-hw0];exact Has.new w _ _
 have hb0:Below w.heap.size w w0:=by rw[<-hw0];exact(Below.refl _ _).alloc (Nat.le_refl _) _
 have hM:(MBOX N a m c an K cn)=#[.int .u64 (N:Int),.slice a m c,.slice an K cn]:=rfl;have CC:Aside (∀ W,Below w0.heap.size w0 W->W.cell? ⟨w.heap.size,0,none⟩=some (.int .u64 (N:Int))/\W.cell? ⟨w.heap.size,1,none⟩=some (.slice a m c)/\W.cell? ⟨w.heap.size,2,none⟩=some (.slice an K cn)):=fun W hb=>⟨(h1.keep hb).cell 0,(h1.keep hb).cell 1,(h1.keep hb).cell 2⟩
 have B0:Aside (Below w.heap.size w w0):=hb0;rw[hM] at hw0;have R0:Aside ((w0.alloc (.cells #[.int .u8 78] 5)).ownsRow w0.heap.size 5 1 (.slice (some ⟨w0.heap.size,0,none⟩) 1 1) 1 (za [78])/\Below w0.heap.size w0 (w0.alloc (.cells #[.int .u8 78] 5))):=⟨ZQ w0 78,(Below.refl _ _).alloc (Nat.le_refl _) _⟩
 have x0:=(CC.out _ R0.out.2).1;clear h1 hb0;go_enter Tryz.func56,Tryz.ntmps56;rw[hM];go_wp2_with fail
 generalize w0.alloc (.cells #[.int .u8 78] 5)=w1 at *
 refine(c1 _).mono ?_;rintro e w2 ⟨g,cap,rfl,hown,hg,hb⟩;clear c1 x0 hw0;have R1:Aside (w2.ownsRow w0.heap.size 5 1 (.slice (some ⟨w0.heap.size,0,none⟩) 1 1) 1 (za [78])/\Below w0.heap.size w0 w2/\Bytes w2 (some ⟨g,0,none⟩) nx SX):=⟨zG R0.out.1 hb,R0.out.2.trans (hb.mono R0.out.2.size),yL hown hg HA.out.2.2.2.2.2.2.1⟩
 clear hown hg hb R0
 go_wp2_with (first
  | (at_builtin;refine zM _ rfl (.tmp 10) (.tmp 13) rfl w0.heap.size _ 1 [78] rfl R1.out.1 g 0 nx cap SX rfl R1.out.2.2 hn1 (by have:=HA.out.2.2.2.2.1;omega) R1.out.2.1.size ?_;intro g3 cap3 w3 hown hgrow hg
     have R2:Aside (w3.ownsRow w0.heap.size 5 1 (.slice (some ⟨g3,0,none⟩) (1+nx) cap3) (1+nx) (za ([78] ++ SX))/\Below w0.heap.size w0 w3):=⟨hown,R1.out.2.1.grown hgrow R1.out.2.1.size (fun k e=>(R1.out.1.lt k e).1)⟩
     have x1:=(CC.out _ R2.out.2).2.1;clear hown hgrow hg R1))
 refine(c2 _).mono ?_;rintro e w4 ⟨g4,cap4,rfl,hown,hg,hb⟩;clear c2 x1 eum;have R3:Aside (w4.ownsRow w0.heap.size 5 1 (.slice (some ⟨g3,0,none⟩) (1+nx) cap3) (1+nx) (za ([78] ++ SX))/\Below w0.heap.size w0 w4/\Bytes w4 (some ⟨g4,0,none⟩) ny SY):=⟨zG R2.out.1 hb,R2.out.2.trans (hb.mono R2.out.2.size),yL hown hg HA.out.2.2.2.2.2.2.2⟩
 clear hown hg hb R2
 go_wp2_with (first
  | (at_builtin;refine zM _ rfl (.tmp 15) (.tmp 20) rfl w0.heap.size _ (1+nx) ([78] ++ SX) rfl R3.out.1 g4 0 ny cap4 SY rfl R3.out.2.2 hn2 (by have:=HA.out.2.2.2.2;omega) R3.out.2.1.size ?_;intro g5 cap5 w5 hown hgrow hg
     have R4:Aside (w5.ownsRow w0.heap.size 5 1 (.slice (some ⟨g5,0,none⟩) (1+nx+ny) cap5) (1+nx+ny) (za ([78] ++ SX ++ SY))/\Below w0.heap.size w0 w5):=⟨hown,R3.out.2.1.grown hgrow R3.out.2.1.size (fun k e=>(R3.out.1.lt k e).1)⟩
     have x1:=(CC.out _ R4.out.2).2.1;clear hown hgrow hg R3))
 clear x1
 have HP:Aside (1+nx+ny<=21):=by
  obtain⟨_,_,_,_,h5,h6,_⟩:=HA.out;show 1+nx+ny<=21;omega
 generalize [78] ++ SX ++ SY=PRE at *
 generalize 1+nx+ny=np at *
 go_loopg [3,4,25] m (fun q s3 s4 s25 wx=>∃ (j k np':Nat) (v:Value) (pre:List Int),v=s3/\s4=.int .u64 (k:Int)/\s25=.int .i64 (j:Int)/\Aside (j+q=m/\k=LSX L j/\wx.ownsRow w0.heap.size 5 1 v np' (za (PRE ++ pre))/\pre ++ DIFS k (L.drop j)=DIFS 0 L/\np'<=21+10*j/\Below w0.heap.size w0 wx))
 case atStart=>exact⟨0,0,np,_,[],rfl,rfl,rfl,by omega,rfl,by simpa using R4.out.1,by simp,HP.out,R4.out.2⟩
 case round=>
  obtain⟨j,k,np',v,pre,rfl,rfl,rfl,A⟩:=hrel;clear R4 HP;cases gk with
  | succ q=>
    have hjm:j<m:=by have:=A.out.1;omega
    have hlt:(j:Int)<(m:Int):=by omega
    obtain⟨x,ex⟩:∃ x,L[j]?=some x:=⟨_,List.getElem?_eq_getElem (by have:=HI.out.1;omega)⟩
    obtain⟨b,o,rfl,hb,hcc⟩:=HI.out.2.2.2.2 (by have:=HI.out.1;omega);have hx62:=HI.out.2.2.2.1 x (List.mem_of_getElem? ex);have x0:wr.cell? ⟨b,o+j,none⟩=some (.int .u64 (x:Int)):=(A.out.2.2.2.2.2.cell (p:=⟨b,o+j,none⟩) (by have:=B0.out.size;show b<w0.heap.size;omega)).trans ((B0.out.cell (p:=⟨b,o+j,none⟩) hb).trans (hcc j x ex));have hle:k<=x:=by rw[A.out.2.1];exact z2j HI.out.2.2.1 ex
    have eg:=z1x hle (by omega);have eu:=z2k (x:=x) (by omega);have ej:wrap64 ((j:Int)+1)=((j+1:Nat):Int):=by have:=HI.out.2.1;unfold wrap64;omega
    have cs:=Xd (x - k) (by omega);have hsl:=yZ (x - k);have hsn:=xY (x - k);have hsr:=xO (X:=x - k) (by omega)
    have hdif:pre ++ (zr (x - k) ++ DIFS (x+1) (L.drop (j+1)))=DIFS 0 L:=by
      have h1:=A.out.2.2.2.1;rw[Zr ex,DIFS] at h1;exact h1
    have A2:Aside (j+1+q=m/\x+1=LSX L (j+1)/\wr.ownsRow w0.heap.size 5 1 v np' (za (PRE ++ pre))/\pre ++ (zr (x - k) ++ DIFS (x+1) (L.drop (j+1)))=DIFS 0 L/\np'<=21+10*j/\Below w0.heap.size w0 wr/\(zr (x - k)).length=NTOP (x - k)+1/\NTOP (x - k)+1<=10/\(∀ y∈zr (x - k),0<=y/\y<=255)/\j<2 ^ 20):=⟨by have:=A.out.1;clear ej eg eu;omega,(ZH ex).symm,A.out.2.2.1,hdif,A.out.2.2.2.2.1,A.out.2.2.2.2.2,hsl,by clear ej eg eu;omega,hsr,by have:=HI.out.2.1;clear ej eg eu;omega⟩
    have hs0:0<NTOP (x - k)+1:=Nat.succ_pos _;generalize hSD:zr (x - k)=SD at *
    generalize NTOP (x - k)+1=nd at *
    generalize x - k=xk at *
    clear A hdif hsl hsr hle hx62 ex hjm hcc hb hSD hsn;go_wp2_with fail
    refine(cs _).mono ?_;rintro e w6 ⟨g6,cap6,rfl,hown,hg,hb⟩;clear cs x0;have R5:Aside (w6.ownsRow w0.heap.size 5 1 v np' (za (PRE ++ pre))/\Below w0.heap.size w0 w6/\Bytes w6 (some ⟨g6,0,none⟩) nd SD):=⟨zG A2.out.2.2.1 hb,A2.out.2.2.2.2.2.1.trans (hb.mono A2.out.2.2.2.2.2.1.size),yL hown hg A2.out.2.2.2.2.2.2.2.2.1⟩
    clear hown hg hb
    go_wp2_with (first
      | (at_builtin;refine zM _ rfl (.tmp 29) (.tmp 33) rfl w0.heap.size v np' (PRE ++ pre) rfl R5.out.1 g6 0 nd cap6 SD rfl R5.out.2.2 hs0 (by have:=A2.out;omega) R5.out.2.1.size ?_;intro g7 cap7 w7 hown hgrow hg
         have Z7:Aside (j+1+q=m/\x+1=LSX L (j+1)/\w7.ownsRow w0.heap.size 5 1 (.slice (some ⟨g7,0,none⟩) (np'+nd) cap7) (np'+nd) (za (PRE ++ (pre ++ SD)))/\(pre ++ SD) ++ DIFS (x+1) (L.drop (j+1))=DIFS 0 L/\np'+nd<=21+10*(j+1)/\Below w0.heap.size w0 w7):=⟨A2.out.1,A2.out.2.1,by rw[<-List.append_assoc];exact hown,by rw[List.append_assoc];exact A2.out.2.2.2.1,by have:=A2.out;omega,R5.out.2.1.grown hgrow R5.out.2.1.size (fun k e=>(R5.out.1.lt k e).1)⟩
         clear hown hgrow hg R5 A2))
    go_roundg q
    case measure=>exact Nat.lt_succ_self _
    case rel=>exact⟨j+1,x+1,np'+nd,_,pre ++ SD,rfl,by first | rfl | exact congrArg (Value.int IntKind.u64) eu,by first | rfl | (rw[ej]),Z7.out⟩
  | zero=>
    obtain rfl:j=m:=by have:=A.out.1;omega
    have hlt:¬ (j:Int)<(j:Int):=by omega
    have x2:=(CC.out _ A.out.2.2.2.2.2).2.2
    have A3:Aside (wr.ownsRow w0.heap.size 5 1 v np' (za (PRE ++ DIFS 0 L))/\np'<=2 ^ 24/\Below w0.heap.size w0 wr):=by
      obtain⟨h1,h2,h3,h4,h5,h6⟩:=A.out;rw[List.drop_of_length_le (by have:=HI.out.1;omega),DIFS,List.append_nil] at h4;rw[h4] at h3;exact⟨h3,by have:=HI.out.2.1;omega,h6⟩
    clear A;go_wp2_with fail
    clear x2;obtain⟨PP,hPP⟩:∃ PP,PRE ++ DIFS 0 L=PP:=⟨_,rfl⟩
    have HZ:Aside (PP ++ l=Z):=show PP ++ l=Z by rw[<-hPP];exact HL.out.1
    rw[hPP] at A3;clear hPP;go_loopg [3,41] K (fun q s3 s41 wx=>∃ (i:Nat) (u:Value),u=s3/\s41=.int .i64 (i:Int)/\Aside (i+q=K/\wx.ownsRow w0.heap.size 5 1 u (np'+32*i) (za (PP ++ l.take (32*i)))/\Below w0.heap.size w0 wx))
    case atStart=>exact⟨0,_,rfl,rfl,by omega,by simpa using A3.out.1,A3.out.2.2⟩
    case round =>
      obtain⟨i,u,rfl,rfl,A⟩:=hrel;cases gk with
      | zero=>
        obtain⟨hi,hown,hbel⟩:=A.out;obtain rfl:i=K:=by omega
        have hlt2:¬ (i:Int)<(i:Int):=by omega
        have R:Aside (wr.ownsRow w.heap.size 5 1 u NZ (za Z)/\Below w.heap.size w wr):=by
          rw[List.take_of_length_le (by have:=HA.out.1.1;omega),HZ.out] at hown;have:=uw hown;rw[HL.out.2] at this;rw[<-this] at hown;exact⟨zq hown B0.out.size,B0.out.trans (hbel.mono B0.out.size)⟩
        clear hi hown hbel A HA HL HI A3;go_wp2;go_ret;exact⟨_,rfl,R.out.1,R.out.2⟩
      | succ q =>
        obtain⟨hi,hown,hbel⟩:=A.out;have hK20:=HA.out.2.1;have a1:Flat wr an K l:=(HA.out.1.below B0.out).below hbel;have hlt2:(i:Int)<(K:Int):=by omega
        obtain⟨b,o,rfl,hbl,hc⟩:=a1.2.1 (by omega);have hat:=a1.at (show i<K by omega)
        have h32:=yq a1.1 (show i<K by omega);have hrr:∀ x∈HSH l i,0<=x/\x<=255:=fun x hx=>a1.2.2 x (uv hx);have hnx:=ZE l i;have e1:wrap64 ((i:Int)+1)=((i+1:Nat):Int):=by unfold wrap64;omega
        have R:Aside (i+1+q=K/\K<2 ^ 20/\np'<=2 ^ 24/\wr.ownsRow w0.heap.size 5 1 u (np'+32*i) (za (PP ++ l.take (32*i)))/\Below w0.heap.size w0 wr/\(HSH l i).length=32/\(∀ x∈HSH l i,0<=x/\x<=255)/\PP ++ l.take (32*(i+1))=PP ++ l.take (32*i) ++ HSH l i):=⟨by clear e1;omega,hK20,A3.out.2.1,hown,hbel,h32,hrr,by rw[hnx,List.append_assoc]⟩
        generalize HSH l i=H at *
        clear hi hown hbel a1 hbl hc hrr hnx A hK20 A3
        go_wp2_with (first
          | (refine wpList_load_mid rfl 23 (.tmp 43) rfl b (o+i*32) rfl (za H) _ hat Tryz.underlying23 rfl (zo h32) ?_)
          | (refine wpList_store_row rfl 23 (.tmp 8) (.tmp 44) rfl _ _ rfl rfl 23 _ (Has.new wr _ _) (zd h32) (by simp[za,h32]) (zx H) ?_;rw[World.setRow_alloc_new])
          | (at_builtin;refine zM _ rfl (.tmp 45) (.tmp 46) rfl w0.heap.size u (np'+32*i) _ rfl (R.out.2.2.2.1.alloc _) wr.heap.size 0 32 32 H rfl (G9 wr R.out.2.2.2.2.2.1 R.out.2.2.2.2.2.2.1 _) (by omega) (by have:=R.out.1;have:=R.out.2.1;have:=R.out.2.2.1;omega) (by have:=R.out.2.2.2.2.1.size;simp;omega) ?_;intro g6 cap6 w6 hown hgrow hg
             have R2:Aside (i+1+q=K/\w6.ownsRow w0.heap.size 5 1 (.slice (some ⟨g6,0,none⟩) (np'+32*i+32) cap6) (np'+32*(i+1)) (za (PP ++ l.take (32*(i+1))))/\Below w0.heap.size w0 w6):=by
              obtain⟨r1,r2,r3,r4,r5,r6,r7,r8⟩:=R.out;refine⟨r1,?_,(r5.alloc r5.size _).grown hgrow (by have:=r5.size;simp;omega) (fun k e=>(r4.lt k e).1)⟩;rw[r8,show np'+32*(i+1)=np'+32*i+32 by omega];exact hown
             clear hown hgrow hg R hat h32))
        go_roundg q
        case measure=>exact Nat.lt_succ_self _
        case rel=>exact⟨i+1,_,rfl,by first | rfl | (rw[e1]),R2.out⟩
def UND(h k:Nat)(L:List Nat):List Nat:=L.filter fun y=>decide (y / 2 ^ h=k)
theorem qS{h k y:Nat}{L:List Nat}(hy:y∈UND h k L):y∈L/\y / 2 ^ h=k:=⟨(List.mem_filter.1 hy).1,of_decide_eq_true (List.mem_filter.1 hy).2⟩
theorem xQ(h k:Nat)(L:List Nat):(UND h k L).length<=L.length:=List.length_filter_le _ _
theorem ZV{h k y:Nat}(e:y / 2 ^ (h+1)=k):(y<(2*k+1)*2 ^ h↔y / 2 ^ h=2*k)/\(¬ y<(2*k+1)*2 ^ h↔y / 2 ^ h=2*k+1):=by
 have h1:y / 2 ^ h / 2=k:=by rw[Nat.div_div_eq_div_mul,<-Nat.pow_succ];exact e
 have h2:=Nat.div_lt_iff_lt_mul (Nat.two_pow_pos h) (x:=y) (y:=2*k+1);rw[<-h2];generalize y / 2 ^ h=q at *
 omega
theorem z1y(h k:Nat)(L:List Nat)(hL:UND (h+1) k L≠[]):NSP (h+1) k (UND (h+1) k L)=NSP h (2*k) (UND h (2*k) (UND (h+1) k L)) ++ NSP h (2*k+1) (UND h (2*k+1) (UND (h+1) k L)):=by
 have hm:∀ y∈UND (h+1) k L,y / 2 ^ (h+1)=k:=fun y hy=>(qS hy).2;generalize UND (h+1) k L=M at *
 cases M with
 | nil=>exact absurd rfl hL
 | cons x l=>
   rw[NSP];have e1:((x :: l).filter fun y=>decide (y<(2*k+1)*2 ^ h))=UND h (2*k) (x :: l):=List.filter_congr fun y hy=>decide_eq_decide.2 (ZV (hm y hy)).1;have e2:((x :: l).filter fun y=>!decide (y<(2*k+1)*2 ^ h))=UND h (2*k+1) (x :: l):=List.filter_congr fun y hy=>by rw[<-decide_not];exact decide_eq_decide.2 (ZV (hm y hy)).2
   rw[e1,e2]
def RNS(ps:List (Nat × Nat))(L:List Nat):List (Nat × Nat):=ps.flatMap fun s=>NSP s.1 s.2 (UND s.1 s.2 L)
theorem me{ps:List (Nat × Nat)}{L M:List Nat}(h:∀ s∈ps,UND s.1 s.2 L=UND s.1 s.2 M):RNS ps L=RNS ps M:=by
 induction ps with
 | nil=>rfl
 | cons s ps ih=>
   rw[RNS,RNS,List.flatMap_cons,List.flatMap_cons,h s (List.mem_cons_self ..)];exact congrArg _ (ih fun t ht=>h t (List.mem_cons_of_mem _ ht))
theorem VM:∀ (ps:List (Nat × Nat)) (A B:Nat) (L:List Nat),Tile A ps B->(∀ x∈L,A<=x/\x<B)->RNS ps L=NSPS ps L
 | [],_,_,_,_,_=>rfl
 | (h, k) :: ps,A,B,L,ht,hm=>by
   obtain⟨hN,hA,ht⟩:Node h k/\k*2 ^ h=A/\Tile ((k+1)*2 ^ h) ps B:=ht
   have e1:UND h k L=L.filter fun y=>decide (y<(k+1)*2 ^ h):=List.filter_congr fun y hy=>decide_eq_decide.2 (by
     have h1:=Nat.div_lt_iff_lt_mul (Nat.two_pow_pos h) (x:=y) (y:=k+1);have h2:=Nat.le_div_iff_mul_le (Nat.two_pow_pos h) (x:=k) (y:=y);have h3:=(hm y hy).1;rw[<-h1];rw[hA] at h2;generalize y / 2 ^ h=q at *
     omega)
   have e2:RNS ps L=RNS ps (L.filter fun y=>!decide (y<(k+1)*2 ^ h)):=me fun s hs=>by
     have h1:=(ht.within s hs).1;unfold UND;rw[List.filter_filter];refine List.filter_congr fun y hy=>?_;by_cases e:y / 2 ^ s.1=s.2
     ·have h2:s.2*2 ^ s.1<=y:=by rw[<-e];exact Nat.div_mul_le_self _ _
      have h3:¬ y<(k+1)*2 ^ h:=by omega
      simp[e,h3]
     ·simp[e]
   have e3:=VM ps ((k+1)*2 ^ h) B (L.filter fun y=>!decide (y<(k+1)*2 ^ h)) ht (fun y hy=>by
     obtain⟨a,b⟩:=List.mem_filter.1 hy;have b:¬ y<(k+1)*2 ^ h:=by simpa using b
     exact⟨by omega,(hm y a).2⟩)
   have e4:RNS ((h,k) :: ps) L=NSP h k (UND h k L) ++ RNS ps L:=rfl;rw[e4,NSPS,e1,e2,e3]
theorem z1z{N:Nat}{L:List Nat}(hr:zf L N=0):zc (TPS N) L=(RNS (TPS N) L).map SPL:=by
 obtain⟨h1,h2,h3⟩:=yF hr;rw[vm,VM (TPS N) 0 N L (yE h1) (fun x hx=>⟨Nat.zero_le _,h3 x hx⟩)]
theorem ZI(h k:Nat)(L:List Nat):(NSP h k L).length<=L.length*h+1:=by
 have:=vG h k L;rwa [ZG,List.length_map] at this
theorem Xh:∀ (h k:Nat) (L:List Nat),Node h k->∀ s∈NSP h k L,Node s.1 s.2
 | h,k,[],hN,s,hs=>by
   rw[ZU,List.mem_singleton] at hs;subst hs;exact hN
 | 0,_,_ :: _,_,s,hs=>by cases hs
 | h+1,k,x :: l,hN,s,hs=>by
   rw[NSP] at hs;rcases List.mem_append.1 hs with hs | hs
   ·exact Xh h (2*k) _ hN.kid.1 s hs
   ·exact Xh h (2*k+1) _ hN.kid.2 s hs
theorem jG{ops:Array Oper}{rest:List Oper}{o:Oper}{a:Act}{Q:Exit->Act->World->Prop}(w:World)(hgd:o.guard=none)(s x:Operand)
  (ho:o.op=.call {callee:=.builtin .append,args:=#[s,x],argTypes:=#[25,25]})
  (base:Nat) (v:Value) (n:Nat) (xs:List Nat) (hs:a.eval s=v) (hown:w.ownsRow base 24 1 v n (ze xs))
  (b c:Nat) (y:Nat) (hx:a.eval x=.slice (some ⟨b,0,none⟩) 1 c) (hc:w.cell? ⟨b,0,none⟩=some (.int .u64 (y:Int)))
  (hb:n<=2 ^ 30) (hbase:base<=w.heap.size)
  (h:∀ g cap w',w'.ownsRow base 24 1 (.slice (some ⟨g,0,none⟩) (n+1) cap) (n+1) (ze (xs ++ [y]))->w.grownBy w' v.ownBlock->g<w'.heap.size->wpList Tryz.prog ops Q rest (a.put o.dst (.slice (some ⟨g,0,none⟩) (n+1) cap)) w'):wpList Tryz.prog ops Q (o :: rest) a w:=by
 obtain⟨i,hi,hz,hs1,hby⟩:=info_parts xA;refine wpList_append_lies w hgd s x 25 ho base 24 i (.int .u64 0) 1 8 Tryz.underlying25 hi hz hs1 hby rfl (by decide) v n (ze xs) hs hown ⟨b,0,none⟩ 1 c [.int .u64 (y:Int)] hx rfl ?_ (fun u hu=>by simp at hu;subst hu;rfl) (by decide) (by simp only[maxLen];omega) (by omega) hbase w.heap.size rfl ?_
 ·intro j u hj
  cases j with
  | zero=>
    simp only[List.getElem?_cons_zero,Option.some.injEq] at hj;subst hj;exact hc
  | succ j=>simp at hj
 ·intro g cap w' h1 h2 _ h4
  rw[<-jc] at h1;exact h g cap w' h1 h2 h4
structure TAKING (w0 w:World) (bp:Nat) (acc:List Nat):Prop where
 row:∃ v,Has w bp #[v] 25/\w.ownsRow w0.heap.size 24 1 v acc.length (ze acc)
 keep:∀ b,b<w0.heap.size->b≠bp->w.heap[b]?=w0.heap[b]?
 lt:bp<w0.heap.size
 below:Below bp w0 w
theorem y9{w:World}{B s n:Nat}{t:TypeId}{v:Value}{xs:List Value}(h:w.ownsRow B t s v n xs):∃ a c,v=.slice a n c:=by
 rcases h.2 with ⟨e,h0⟩ | ⟨g,cap,cur,e,_⟩
 ·exact⟨none,0,by rw[e,h0]⟩
 ·exact⟨_,_,e⟩
theorem z05{w0 w:World}{bp:Nat}{acc:List Nat}(hK:TAKING w0 w bp acc)(p:Nat)(hn:acc.length<=2 ^ 30):Calls Tryz.prog 53 #[.int .u64 (p:Int),.pointer (some ⟨bp,0,none⟩)] w fun e w'=>e=.returned (.tuple #[])/\TAKING w0 w' bp (acc ++ [p]):=by
 obtain⟨v,hv,hown⟩:=hK.row;obtain⟨a,c,rfl⟩:=y9 hown;have c0:w.cell? ⟨bp,0,none⟩=some (.slice a acc.length c):=hv.cell 0;have HA:Aside (TAKING w0 w bp acc/\acc.length<=2 ^ 30/\Has w bp #[.slice a acc.length c] 25/\w.ownsRow w0.heap.size 24 1 (.slice a acc.length c) acc.length (ze acc)):=⟨hK,hn,hv,hown⟩
 clear hK hn hv hown;obtain⟨n,hn⟩:∃ n,acc.length=n:=⟨_,rfl⟩
 rw[hn] at HA c0;have HN:Aside (acc.length=n):=hn;clear hn;go_enter Tryz.func53,Tryz.ntmps53
 go_wp2_with (first
  | (at_builtin;refine jG _ rfl (.tmp 3) (.tmp 5) rfl w0.heap.size (.slice a n c) n acc rfl (HA.out.2.2.2.alloc _) w.heap.size 1 p rfl ((Has.new _ _ _).cell 0) HA.out.2.1 (by have:=HA.out.1.below.size;simp;omega) ?_;intro g1 c1 w1 hown1 hgrow1 hg1
     have hbp:Has w1 bp #[.slice a n c] 25:=by
      refine(hgrow1.block bp (by have:=HA.out.2.2.1.lt;simp;omega) (fun e=>?_)).trans (HA.out.2.2.1.alloc _);have:=(HA.out.2.2.2.lt bp e.symm).1;have:=HA.out.1.lt;omega
     have x0:=hbp.cell 0;have x1:=hbp.frozen 0
     have FN:Aside (TAKING w0 (w1.setCell ⟨bp,0,none⟩ (.slice (some ⟨g1,0,none⟩) (n+1) c1)) bp (acc ++ [p])):=by
      have hlt:=HA.out.1.lt;have hsz:=HA.out.1.below.size;refine⟨⟨.slice (some ⟨g1,0,none⟩) (n+1) c1,hbp.set 0 _,?_⟩,fun b hb hne=>?_,hlt,?_⟩
      ·rw[List.length_append,HN.out]
       exact ownsRow_setCell_below hown1 (a:=⟨bp,0,none⟩) hlt _
      ·rw[Below.heap_setCell _ _ _ _ (by exact hne),hgrow1.block b (by simp;omega) (fun e=>by have:=(HA.out.2.2.2.lt b e.symm).1;omega),Below.heap_alloc _ _ _ (by omega)]
       exact HA.out.1.keep b hb hne
      ·refine((HA.out.1.below.alloc (by omega) _).grown hgrow1 (by simp;omega) (fun k e=>?_)).setCell (Nat.le_refl _) _
       have:=(HA.out.2.2.2.lt k e).1;omega
     clear hown1 hgrow1 hg1 hbp c0))
 exact bodyPost_end (v:=.tuple #[]) (by simp[results,Tryz.f53]) rfl ⟨rfl,FN.out⟩
theorem z06{h k j x:Nat}{L:List Nat}(e:L[j]?=some x):UND h k (L.take (j+1))=UND h k (L.take j) ++ (if x / 2 ^ h=k then [x] else []):=by
 unfold UND;rw[List.take_add_one,e,List.filter_append];congr 1
 by_cases hx:x / 2 ^ h=k <;> simp[hx]
theorem jm(h k:Nat)(hh:h<64)(L:List Nat)(a:Option Addr)(n c:Nat)(hl:L.length=n)(hn:n<2 ^ 20)(hx:∀ x∈L,x<2 ^ 64)(w:World)(hL:NUML w a L):
  Calls Tryz.prog 67 #[SPOT h k,.slice a n c] w fun e w'=>∃ a' c',e=.returned (.slice a' (UND h k L).length c')/\w'.ownsRow w.heap.size 24 1 (.slice a' (UND h k L).length c') (UND h k L).length (ze (UND h k L))/\Below w.heap.size w w':=by
 have cp:=xU h hh;have hm:wrap64 (h:Int)=(h:Int):=by unfold wrap64;omega
 obtain⟨w1,e1⟩:∃ w1,w.alloc (.cells #[.int .u8 (h:Int),.int .u64 (k:Int)] 77)=w1:=⟨_,rfl⟩
 have hB:Has w1 w.heap.size #[.int .u8 (h:Int),.int .u64 (k:Int)] 77:=by rw[<-e1];exact Has.new w _ _
 have hb1:Below w.heap.size w w1:=by rw[<-e1];exact(Below.refl _ _).alloc (Nat.le_refl _) _
 have c0:=hB.cell 0;obtain⟨z,hz⟩:∃ z:Int,((2 ^ h:Nat):Int)=z:=⟨_,rfl⟩
 have hz1:¬ z=0:=by have:=Nat.two_pow_pos h;rw[<-hz];generalize 2 ^ h=y at *;omega
 have hz0:(z == 0)=false:=by simpa using hz1
 rw[hz] at cp;have HA:Aside (L.length=n/\n<2 ^ 20/\(∀ x∈L,x<2 ^ 64)/\NUML w a L/\Has w1 w.heap.size #[.int .u8 (h:Int),.int .u64 (k:Int)] 77/\Below w.heap.size w w1/\((2 ^ h:Nat):Int)=z):=⟨hl,hn,hx,hL,hB,hb1,hz⟩
 clear hh hl hn hx hL hB hb1 hz;go_enter Tryz.func67,Tryz.ntmps67;go_wp2_with fail
 refine(cp _).mono ?_;rintro e w' ⟨rfl,rfl⟩;clear cp c0 hm;go_wp2_with fail
 clear e1;go_loopg [6,7] n (fun q s6 s7 wx=>∃ (j:Nat) (v:Value),v=s6/\s7=.int .i64 (j:Int)/\Aside (j+q=n/\wx.ownsRow w1.heap.size 24 1 v (UND h k (L.take j)).length (ze (UND h k (L.take j)))/\Below w1.heap.size w1 wx))
 case atStart=>exact⟨0,_,rfl,rfl,by omega,⟨rfl,.inl ⟨rfl,rfl⟩⟩,Below.refl _ _⟩
 case round =>
  obtain⟨j,v,rfl,rfl,A⟩:=hrel;obtain⟨av,cv,rfl⟩:=y9 A.out.2.1;cases gk with
  | zero=>
    obtain rfl:j=n:=by have:=A.out.1;omega
    have hlt:¬ (j:Int)<(j:Int):=by omega
    have FN:Aside (wr.ownsRow w.heap.size 24 1 (.slice av (UND h k L).length cv) (UND h k L).length (ze (UND h k L))/\Below w.heap.size w wr/\UND h k (L.take j)=UND h k L):=by
     obtain⟨_,h2,h3⟩:=A.out;have e:L.take j=L:=List.take_of_length_le (by have:=HA.out.1;omega);rw[e] at h2;have hb:=HA.out.2.2.2.2.2.1;exact⟨zq h2 hb.size,hb.trans (h3.mono hb.size),by rw[e]⟩
    clear A HA;rw[FN.out.2.2];go_wp2_with fail
    go_ret;exact⟨_,_,rfl,FN.out.1,FN.out.2.1⟩
  | succ q =>
    have hjn:j<n:=by have:=A.out.1;omega
    have hlt:(j:Int)<(n:Int):=by omega
    obtain⟨x,ex⟩:∃ x,L[j]?=some x:=⟨_,List.getElem?_eq_getElem (by have:=HA.out.1;omega)⟩
    obtain⟨b,o,rfl,hb,hcc⟩:=HA.out.2.2.2.1 (by have:=HA.out.1;omega);have hb1:=HA.out.2.2.2.2.2.1;have x0:wr.cell? ⟨b,o+j,none⟩=some (.int .u64 (x:Int)):=(A.out.2.2.cell (p:=⟨b,o+j,none⟩) (by have:=hb1.size;show b<w1.heap.size;omega)).trans ((hb1.cell (p:=⟨b,o+j,none⟩) hb).trans (hcc j x ex));have x1:wr.cell? ⟨w.heap.size,1,none⟩=some (.int .u64 (k:Int)):=(A.out.2.2.cell (p:=⟨w.heap.size,1,none⟩) HA.out.2.2.2.2.1.lt).trans (HA.out.2.2.2.2.1.cell 1);have hx64:=HA.out.2.2.1 x (List.mem_of_getElem? ex);have hz:=HA.out.2.2.2.2.2.2;obtain⟨t,ht⟩:∃ t:Int,((x / 2 ^ h:Nat):Int)=t:=⟨_,rfl⟩
    have ed:(x:Int) / z=t:=by rw[<-hz,<-ht];exact(Int.natCast_ediv _ _).symm
    have ew:IntKind.u64.wrap t=t:=by have:=Nat.div_le_self x (2 ^ h);rw[<-ht,zh];generalize x / 2 ^ h=y at *;omega
    have ej:wrap64 ((j:Int)+1)=((j+1:Nat):Int):=by have:=HA.out.2.1;unfold wrap64;omega
    have hs:=z06 (h:=h) (k:=k) ex;have hlen:=xQ h k (L.take j);by_cases hxk:x / 2 ^ h=k
    ·have hq:(t == (k:Int))=true:=by rw[<-ht,hxk];exact beq_self_eq_true _
     rw[if_pos hxk] at hs;have R:Aside (j+1+q=n/\wr.ownsRow w1.heap.size 24 1 (.slice av (UND h k (L.take j)).length cv) (UND h k (L.take j)).length (ze (UND h k (L.take j)))/\Below w1.heap.size w1 wr/\(UND h k (L.take j)).length<=2 ^ 20/\UND h k (L.take (j+1))=UND h k (L.take j) ++ [x]):=⟨by have:=A.out.1;clear ej ew;omega,A.out.2.1,A.out.2.2,by have:=HA.out.2.1;rw[List.length_take] at hlen;clear ej ew;omega,hs⟩
     generalize UND h k (L.take j)=U at *
     generalize hU2:UND h k (L.take (j+1))=U2 at *
     have HU2:Aside (UND h k (L.take (j+1))=U2):=hU2;generalize hu:U.length=u at *
     clear A hs hlen hcc hb hb1 hx64 hjn ex hxk hz hU2 ht;go_wp2_with fail
     go_quiet (fail)
     have R1:Aside (j+1+q=n/\(wr.drewN nq).ownsRow w1.heap.size 24 1 (.slice av u cv) u (ze U)/\Below w1.heap.size w1 (wr.drewN nq)/\u<=2 ^ 20/\U2=U ++ [x]):=⟨R.out.1,R.out.2.1,below_drewN R.out.2.2.1 _,R.out.2.2.2⟩
     have y0:(wr.drewN nq).cell? ⟨b,o+j,none⟩=some (.int .u64 (x:Int)):=x0;clear x0 x1 R;generalize wr.drewN nq=w2 at *
     go_wp2_with (first
      | (at_builtin;refine jG _ rfl (.tmp 27) (.tmp 32) rfl w1.heap.size (.slice av u cv) u U rfl (R1.out.2.1.alloc _) w2.heap.size 1 x rfl ((Has.new _ _ _).cell 0) (by have:=R1.out.2.2.2.1;omega) (by have:=R1.out.2.2.1.size;simp;omega) ?_;intro g3 c3 w3 hown hgrow hg
         have R2:Aside (j+1+q=n/\w3.ownsRow w1.heap.size 24 1 (.slice (some ⟨g3,0,none⟩) (u+1) c3) (UND h k (L.take (j+1))).length (ze (UND h k (L.take (j+1))))/\Below w1.heap.size w1 w3):=by
          obtain⟨r1,r2,r3,r4,r5⟩:=R1.out;have e:(UND h k (L.take (j+1))).length=u+1:=by rw[HU2.out,r5,List.length_append,hu];rfl
          refine⟨r1,?_,(r3.alloc r3.size _).grown hgrow (by have:=r3.size;simp;omega) (fun k e=>(r2.lt k e).1)⟩;rw[e,HU2.out,r5];exact hown
         clear hown hgrow hg R1))
     go_roundg q
     case measure=>exact Nat.lt_succ_self _
     case rel=>exact⟨j+1,_,rfl,by first | rfl | (rw[ej]),R2.out⟩
    ·have hq:(t == (k:Int))=false:=by rw[<-ht];generalize x / 2 ^ h=y at *;simp;omega
     rw[if_neg hxk,List.append_nil] at hs;have R:Aside (j+1+q=n/\wr.ownsRow w1.heap.size 24 1 (.slice av (UND h k (L.take j)).length cv) (UND h k (L.take (j+1))).length (ze (UND h k (L.take (j+1))))/\Below w1.heap.size w1 wr):=⟨by have:=A.out.1;clear ej ew;omega,by rw[hs];exact A.out.2.1,A.out.2.2⟩
     clear A hs hlen hcc hb hb1 hx64 hjn ex hxk hz ht;go_wp2_with fail
     go_quiet (fail)
     have R1:Aside (j+1+q=n/\(wr.drewN nq).ownsRow w1.heap.size 24 1 (.slice av (UND h k (L.take j)).length cv) (UND h k (L.take (j+1))).length (ze (UND h k (L.take (j+1))))/\Below w1.heap.size w1 (wr.drewN nq)):=⟨R.out.1,R.out.2.1,below_drewN R.out.2.2 _⟩
     clear x0 x1 R;generalize wr.drewN nq=w2 at *
     go_wp2_with fail
     go_roundg q
     case measure=>exact Nat.lt_succ_self _
     case rel=>exact⟨j+1,_,rfl,by first | rfl | (rw[ej]),R1.out⟩
theorem UE(l k:List (Nat × Nat)):zl (l ++ k)=zl l ++ zl k:=by unfold zl;rw[List.flatMap_append]
theorem gK(l:List (Nat × Nat)):∀ u∈zl l,u.oneCell'=true:=fun u hu=>by
 unfold zl at hu;obtain⟨x,_,hx⟩:=List.mem_flatMap.1 hu;simp at hx;rcases hx with rfl | rfl <;> rfl
theorem JP{ops:Array Oper}{rest:List Oper}{o:Oper}{a:Act}{Q:Exit->Act->World->Prop}(w:World)(hgd:o.guard=none)(s x:Operand)
   (ho:o.op=.call {callee:=.builtin .append,args:=#[s,x],argTypes:=#[72,72]})
   (base:Nat) (v:Value) (n:Nat) (xs:List (Nat × Nat)) (hs:a.eval s=v) (hown:w.ownsRow base 77 2 v n (zl xs))
   (B:Nat) (ad:Option Addr) (m c:Nat) (l:List (Nat × Nat)) (hx:a.eval x=.slice ad m c) (hsrc:w.ownsRow B 77 2 (.slice ad m c) m (zl l))
   (hb:n+m<=2 ^ 26) (hbase:base<=w.heap.size)
   (hh:∀ a' c' w',w'.ownsRow base 77 2 (.slice a' (n+m) c') (n+m) (zl (xs ++ l))->w.grownBy w' v.ownBlock->wpList Tryz.prog ops Q rest (a.put o.dst (.slice a' (n+m) c')) w'):wpList Tryz.prog ops Q (o :: rest) a w:=by
 obtain⟨i,hi,hz,hs1,hby⟩:=info_parts vO;have hlm:(zl l).length=m*2:=hsrc.1;cases ad with
 | none=>
   have h0:m=0/\c=0:=by
    rcases hsrc.2 with ⟨e,h0⟩ | ⟨_,_,_,e,_⟩
    ·cases e;exact⟨rfl,rfl⟩
    ·cases e
   obtain⟨rfl,rfl⟩:=h0
   have hl0:l=[]:=by
    cases l with
    | nil=>rfl
    | cons y l=>simp[zl] at hlm
   subst hl0;refine wpList_append_own_none hgd s x 72 ho base 77 i 2 Tryz.underlying72 hi v n (zl xs) hs hown hx ?_;obtain⟨a',c',rfl⟩:=y9 hown;have:=hh a' c' w (by simpa using hown) ⟨rfl,rfl,rfl,Nat.le_refl _,fun _ _ _=>rfl⟩;simpa using this
 | some ad=>
   obtain⟨g,rfl⟩:∃ g,ad=⟨g,0,none⟩:=by
    rcases hsrc.2 with ⟨e,h0⟩ | ⟨g,_,_,e,_⟩
    ·cases e
    ·cases e;exact⟨g,rfl⟩
   refine wpList_append_own w hgd s x 72 ho base 77 i _ 2 16 Tryz.underlying72 hi hz hs1 hby rfl (by decide) v n (zl xs) hs hown ⟨g,0,none⟩ m c (zl l) hx hlm (fun j u hu=>?_) (gK l) (by simp only[maxLen];omega) (by omega) hbase ?_
   ·have hj:j<m*2:=by rw[<-hlm];exact(List.getElem?_eq_some_iff.1 hu).1
    rw[show (⟨g,0,none⟩:Addr).add j=⟨g,j,none⟩ by unfold Addr.add;split <;> simp_all];exact(hsrc.cellAt j hj).trans hu
   ·intro v' w' h1 h2 _
    obtain⟨a',c',rfl⟩:=y9 h1;rw[<-UE] at h1;exact hh a' c' w' h1 h2
theorem gL(w:World):(w.alloc (.cells #[] 77)).ownsRow w.heap.size 77 2 (.slice (some ⟨w.heap.size,0,none⟩) 0 0) 0 (zl []):=
 World.ownsRow_lit w #[] 0 (Nat.le_refl _) (by simp[maxLen]) rfl
theorem mf(w:World)(h k:Nat):(w.alloc (.cells #[.int .u8 (h:Int),.int .u64 (k:Int)] 77)).ownsRow w.heap.size 77 2 (.slice (some ⟨w.heap.size,0,none⟩) 1 1) 1 (zl [(h,k)]):=
 World.ownsRow_lit w #[.int .u8 (h:Int),.int .u64 (k:Int)] 1 (Nat.le_refl _) (by simp[maxLen]) rfl
theorem yx{w w':World}{B s n:Nat}{t:TypeId}{v:Value}{xs:List Value}(h:w.ownsRow B t s v n xs)(hk:∀ k,v.ownBlock=some k->w'.heap[k]?=w.heap[k]?):w'.ownsRow B t s v n xs:=by
 refine⟨h.1,?_⟩;rcases h.2 with h | ⟨g,cap,cur,rfl,hb,hg,r⟩
 ·exact .inl h
 ·exact .inr ⟨g,cap,cur,rfl,hb,by rw[hk g rfl];exact hg,r⟩
def AMID(B N:Nat)(L:List Nat):Prop:=∀ x∈L,B<=x/\x<N
theorem AMID.take{B N h k r:Nat}{L:List Nat}(hA:AMID B N L)(hR:RISES L)(hr:RANKS L ((k+1)*2 ^ h) r)(hB:k*2 ^ h=B):UNR h k (L.take r):=by
 refine⟨hR.take r,fun x hx=>?_⟩;have h1:=hA x (List.mem_of_mem_take hx);obtain⟨i,hi⟩:=List.getElem?_of_mem hx;rw[List.getElem?_take] at hi;split at hi
 ·rename_i hlt
  exact⟨by omega,hr.lo i x hlt hi⟩
 ·cases hi
theorem AMID.drop{B N h k r:Nat}{L:List Nat}(hA:AMID B N L)(hr:RANKS L ((k+1)*2 ^ h) r):AMID ((k+1)*2 ^ h) N (L.drop r):=fun x hx=>by
 have h1:=hA x (List.mem_of_mem_drop hx);obtain⟨i,hi⟩:=List.getElem?_of_mem hx;rw[List.getElem?_drop] at hi;exact⟨hr.hi (r+i) x (by omega) hi,h1.2⟩
structure CLJ (d:Int) (N:Nat) (L:List Nat) (lv nd:List Int) (w3 w4 wx:World) (B0 bc g:Nat) (n j n' c':Nat) (a':Option Addr) (Lj:List Nat) (lvj ndj:List Int) (pv:Value) (out:List Int) (B:Nat):Prop where
 len:Lj.length=n'
 le:n'<=n
 rise:RISES Lj
 cap:n'<=c'
 nil:a'=none->c'=0
 ind:INDB w3 bc a'
 lies:NUML w3 a' Lj
 clb:CLB w3 wx bc d lvj ndj n' (zc ((TPS N).drop j) Lj).length
 amid:AMID B N Lj
 tile:Tile B ((TPS N).drop j) N
 all:MUPS d (TPS N) L lv nd=out ++ MUPS d ((TPS N).drop j) Lj lvj ndj
 own:wx.ownsRow w3.heap.size 23 32 pv j (za out)
theorem jn{s:Nat × Nat}:∀ {l:List (Nat × Nat)} {j:Nat},l[j]?=some s->l.drop j=s :: l.drop (j+1)
 | [],j,h=>by simp at h
 | x :: l,0,h=>by simp at h;simp[h]
 | x :: l,j+1,h=>by simpa using jn (l:=l) (j:=j) (by simpa using h)
theorem Xi{w:World}{B s n:Nat}{t:TypeId}{v:Value}{xs:List Value}(h:w.ownsRow B t s v n xs):∃ a c,v=.slice a n c:=by
 rcases h.2 with ⟨e,h0⟩ | ⟨g,cap,cur,e,_⟩
 ·exact⟨none,0,by rw[e,h0]⟩
 ·exact⟨_,_,e⟩
theorem gM(d:Int)(L:List Nat)(N:Nat)(a:Option Addr)(n c:Nat)(al:Option Addr)(cl:Nat)(an:Option Addr)(K cn:Nat)(lv nd:List Int)(w:World)(hN:N<=4611686018427387904)(hl:L.length=n)(hn:n<2 ^ 20)(hR:RISES L)(hLN:∀ x∈L,x<N)(hc:n<=c)(hnil:a=none->c=0)(hbl:∀ x,a=some x->x.block<w.heap.size/\x.spot=none)(hL:NUML w a L)
  (hcl:n<=cl)(hla:∀ x,al=some x->x.block<w.heap.size)(hFl:Flat w al n lv)(hcn:K<=cn)(hna:∀ x,an=some x->x.block<w.heap.size)(hFn:Flat w an K nd)(hK:K=(zc (TPS N) L).length)(hT:Tabled w)(hX:HX.Tabled w)(hw0:0<w.heap.size):
  Calls Tryz.prog 44 #[.int .i64 d,.slice al n cl,.agg (MBOX N a n c an K cn),.func (.func 74) #[] #[]] w fun e w'=>∃ ap cp,e=.returned (.slice ap (PC N) cp)/\w'.ownsRow w.heap.size 23 32 (.slice ap (PC N) cp) (PC N) (za (MUPS d (TPS N) L lv nd))/\Below w.heap.size w w':=by
 have hM:(MBOX N a n c an K cn)=#[.int .u64 (N:Int),.slice a n c,.slice an K cn]:=rfl;have hHE:Yj=.func (.func 74) #[] #[]:=rfl;obtain⟨w1,e1⟩:∃ w1,w.alloc (.cells (MBOX N a n c an K cn) 45)=w1:=⟨_,rfl⟩
 obtain⟨w2,e2⟩:∃ w2,w1.alloc (.cells #[.int .i64 d,.slice al n cl,.slice an K cn,.func (.func 74) #[] #[]] 118)=w2:=⟨_,rfl⟩
 obtain⟨bc,hbc⟩:∃ bc,w1.heap.size=bc:=⟨_,rfl⟩
 have hb1:Below w.heap.size w w1:=by rw[<-e1];exact(Below.refl _ _).alloc (Nat.le_refl _) _
 have hb2:Below w.heap.size w w2:=by rw[<-e2];exact hb1.alloc hb1.size _
 have hB1:Has w1 w.heap.size (MBOX N a n c an K cn) 45:=by rw[<-e1];exact Has.new _ _ _
 have hC2:Has w2 bc #[.int .i64 d,.slice al n cl,.slice an K cn,Yj] 118:=by rw[<-e2,<-hbc];exact Has.new _ _ _
 have hB2:Has w2 w.heap.size (MBOX N a n c an K cn) 45:=by rw[<-e2];exact hB1.alloc _
 have hs1:w.heap.size<bc:=by rw[<-hbc];exact hB1.lt
 have cp:=jv N hN w2 (hT.below hw0 hb2) (by have:=hb2.size;omega);have hPC:PC N<=64:=yC 64 N (by omega);have hlen:=yR (n:=N) (by omega);have y0:w1.cell? ⟨w.heap.size,2,none⟩=some (.slice an K cn):=hB1.cell 2;have y1:w2.cell? ⟨w.heap.size,1,none⟩=some (.slice a n c):=hB2.cell 1;have y2:w2.cell? ⟨w.heap.size,0,none⟩=some (.int .u64 (N:Int)):=hB2.cell 0;have HA:Aside (n<2 ^ 20/\N<=2 ^ 62/\PC N<=64/\(TPS N).length=PC N/\w.heap.size<bc):=⟨hn,by omega,hPC,hlen,hs1⟩
 have LL:Aside (L.length=n/\RISES L/\(∀ x∈L,x<N)/\n<=c/\(a=none->c=0)/\(∀ x,a=some x->x.block<w.heap.size/\x.spot=none)/\NUML w a L):=⟨hl,hR,hLN,hc,hnil,hbl,hL⟩
 have LH:Aside (n<=cl/\(∀ x,al=some x->x.block<w.heap.size)/\Flat w al n lv/\K<=cn/\(∀ x,an=some x->x.block<w.heap.size)/\Flat w an K nd/\K=(zc (TPS N) L).length/\HX.Tabled w/\Below w.heap.size w w2/\Has w2 bc #[.int .i64 d,.slice al n cl,.slice an K cn,Yj] 118):=⟨hcl,hla,hFl,hcn,hna,hFn,hK,hX,hb2,hC2⟩
 have HT:Aside (Tile 0 (TPS N) N):=yE hN;clear hl hn hR hLN hc hnil hbl hL hcl hla hFl hcn hna hFn hK hT hX hw0 hN hb1 hb2 hB1 hC2 hB2 hs1 hPC hlen hHE;rw[hM] at e1;have HBC:Aside (w1.heap.size=bc):=hbc;clear hbc;go_enter Tryz.func44,Tryz.ntmps44;rw[hM];go_upto_region 2 with (refine wpList_store_row rfl 118 (.tmp 9) (.tmp 21) rfl _ _ rfl rfl 118 _ (Has.new w1 _ _) (by kernel_rfl) rfl (by simp[Value.oneCell']) ?_;rw[World.setRow_alloc_new])
 rw[HBC.out,e2];clear e1 e2 HBC;go_wp2_with fail
 refine cp.mono ?_;rintro e w3 ⟨g,cg,rfl,hown,hb3⟩;clear cp y0 y1 y2;obtain⟨m,hm⟩:∃ m,PC N=m:=⟨_,rfl⟩
 rw[hm] at hown ⊢;have W3:Aside (Below w.heap.size w w3/\bc<w3.heap.size):=⟨LH.out.2.2.2.2.2.2.2.2.1.trans (hb3.mono LH.out.2.2.2.2.2.2.2.2.1.size),Nat.lt_of_lt_of_le LH.out.2.2.2.2.2.2.2.2.2.lt hb3.size⟩
 have R1:Aside (w3.ownsRow w2.heap.size 24 1 (.slice (some ⟨g,0,none⟩) m cg) m (ze (yW N))/\PC N=m/\g≠bc/\g<w3.heap.size):=⟨hown,hm,by have h1:=(hown.lt g rfl).1;have:=LH.out.2.2.2.2.2.2.2.2.2.lt;omega,(hown.lt g rfl).2⟩
 have TX:Aside (∀ W,Below bc w3 W->HX.Tabled W):=fun W hb=>LH.out.2.2.2.2.2.2.2.1.below (W3.out.1.trans (hb.mono (Nat.le_of_lt HA.out.2.2.2.2)))
 have S0:Aside (CLJ d N L lv nd w3 w2 w3 0 bc g n 0 n c a L lv nd (.slice none 0 0) [] 0):=by
  obtain⟨q1,q2,q3,q4,q5,q6,q7,q8,q9,q10⟩:=LH.out;obtain⟨p1,p2,p3,p4,p5,p6,p7⟩:=LL.out;have hlt:=HA.out.2.2.2.2;refine⟨p1,Nat.le_refl _,p2,p4,p5,fun x hx=>⟨by have:=(p6 x hx).1;omega,Nat.lt_of_lt_of_le (p6 x hx).1 W3.out.1.size,(p6 x hx).2⟩,fun hp=>?_,⟨⟨_,_,q10.keep hb3,⟨al,cl,rfl,q1,q3.below W3.out.1,fun x hx=>by have:=q2 x hx;omega⟩,⟨an,cn,by rw[List.drop_zero,<-q7],by rw[List.drop_zero,<-q7];exact q4,by rw[List.drop_zero,<-q7];exact q6.below W3.out.1,fun x hx=>by have:=q5 x hx;omega⟩⟩,BUT.refl _ _⟩,fun x hx=>⟨Nat.zero_le _,p3 x hx⟩,by rw[List.drop_zero];exact HT.out,by simp,⟨rfl,.inl ⟨rfl,rfl⟩⟩⟩;obtain⟨b,o,e,hlt,hcc⟩:=p7 hp;exact⟨b,o,e,Nat.lt_of_lt_of_le hlt W3.out.1.size,fun i x hx=>(W3.out.1.cell (p:=⟨b,o+i,none⟩) hlt).trans (hcc i x hx)⟩
 clear hown hb3 hm LL LH HT;go_wp2_with fail
 go_loopg [10,11,28] m (fun q s10 s11 s28 wx=>∃ (j n' c':Nat) (a':Option Addr) (Lj:List Nat) (lvj ndj out:List Int) (B:Nat),s10=.slice a' n' c'/\s28=.int .i64 (j:Int)/\Aside (j+q=m/\CLJ d N L lv nd w3 w2 wx 0 bc g n j n' c' a' Lj lvj ndj s11 out B))
 case atStart=>exact⟨0,n,c,a,L,lv,nd,[],0,rfl,rfl,by omega,S0.out⟩
 case round=>
  obtain⟨j,n',c',a',Lj,lvj,ndj,out,B,rfl,rfl,A⟩:=hrel;clear S0;cases gk with
  | zero=>
    obtain rfl:j=m:=by have:=A.out.1;omega
    have hlt:¬ (j:Int)<(j:Int):=by omega
    have FN:Aside (∃ ap cp,u11=.slice ap (PC N) cp/\wr.ownsRow w.heap.size 23 32 (.slice ap (PC N) cp) (PC N) (za (MUPS d (TPS N) L lv nd))/\Below w.heap.size w wr):=by
     show ∃ ap cp,u11=.slice ap (PC N) cp/\wr.ownsRow w.heap.size 23 32 (.slice ap (PC N) cp) (PC N) (za (MUPS d (TPS N) L lv nd))/\Below w.heap.size w wr;rw[R1.out.2.1];have h:=A.out.2;have e:=h.all;rw[List.drop_of_length_le (by have:=R1.out.2.1;have:=HA.out.2.2.2.1;omega),MUPS,List.append_nil] at e;have ho:=h.own;rw[<-e] at ho;obtain⟨ap,cp,rfl⟩:=Xi ho;exact⟨ap,cp,rfl,zq ho W3.out.1.size,W3.out.1.trans (h.clb.2.2.mono (Nat.le_of_lt HA.out.2.2.2.2))⟩
    clear A R1 HA TX W3;go_wp2_with fail
    obtain⟨ap,cp,rfl,h1,h2⟩:=FN.out;go_ret;exact⟨ap,cp,rfl,h1,h2⟩
  | succ q=>
    have hlt:(j:Int)<(m:Int):=by have:=A.out.1;omega
    have hjm:j<(TPS N).length:=by have:=A.out.1;have:=R1.out.2.1;have:=HA.out.2.2.2.1;omega
    obtain⟨⟨h,k⟩,ehk⟩:∃ s,(TPS N)[j]?=some s:=⟨_,List.getElem?_eq_getElem hjm⟩
    have hsp:=yu HA.out.2.1 (List.mem_of_getElem? ehk);have epk:=jA ehk
    have hcell:wr.cell? ⟨g,j,none⟩=some (.int .u64 ((PLC h k:Nat):Int)):=by
     have h1:=R1.out.1.cellAt j (by have:=A.out.1;omega);refine(World.cell?_of_block (w:=w3) (by exact A.out.2.clb.2.1 g R1.out.2.2.2 R1.out.2.2.1)).trans (h1.trans ?_);rw[ze,List.getElem?_map,epk];rfl
    have ej:wrap64 ((j:Int)+1)=((j+1:Nat):Int):=by have:=A.out.1;have:=R1.out.2.1;have:=HA.out.2.2.1;unfold wrap64;omega
    have cs:=yU h k hsp.2.2 a' n' c' Lj A.out.2.len (by have:=A.out.2.le;have:=HA.out.1;omega) A.out.2.rise A.out.2.cap A.out.2.nil (fun x e=>(A.out.2.ind x e).2.2) wr (A.out.2.lies.but A.out.2.clb.2 A.out.2.ind);have SP:Aside (Node h k/\(TPS N).drop j=(h,k) :: (TPS N).drop (j+1)):=⟨hsp.2.2,jn ehk⟩
    clear hsp ehk epk hjm;go_wp2_with fail
    refine cs.mono ?_;rintro e w5 ⟨r,a2,rfl,hs⟩;clear cs hcell;have htile:=A.out.2.tile;rw[SP.out.2] at htile;have hU:UNR h k (Lj.take r):=A.out.2.amid.take A.out.2.rise hs.rank htile.2.1;have hneed:=y7 ((TPS N).drop (j+1)) hs.rank;have hmups:=qF (d:=d) (lv:=lvj) (nd:=ndj) ((TPS N).drop (j+1)) hs.rank;rw[<-SP.out.2] at hneed hmups;have hrn:=hs.rank.le
    have hind2:INDB w3 bc a2:=fun x hx=>by
     obtain⟨y,e2,e3⟩:=hs.block x hx;have q:=A.out.2.ind y e2;exact⟨by rw[e3];exact q.1,by rw[e3];exact q.2.1,hs.spot x hx⟩
    have hL2:NUML w3 a2 (Lj.drop r):=hs.lies.back A.out.2.clb.2 hind2
    have hL1:NUML w3 a' (Lj.take r):=fun h0=>by
     obtain⟨b,o,e,hl,hcc⟩:=A.out.2.lies (by rw[List.length_take] at h0;omega);refine⟨b,o,e,hl,fun i x hx=>hcc i x ?_⟩;rw[List.getElem?_take] at hx;split at hx
     ·exact hx
     ·cases hx
    have hrn':r<=n':=by have:=A.out.2.len;omega
    have hnl:(zc ((TPS N).drop j) Lj).length=(NEED h k (Lj.take r)).length+(zc ((TPS N).drop (j+1)) (Lj.drop r)).length:=by rw[hneed,List.length_append]
    have hC5:CLB w3 w5 bc d lvj ndj n' (zc ((TPS N).drop j) Lj).length:=A.out.2.clb.still hs.below;have hO5:w5.ownsRow w3.heap.size 23 32 u11 j (za out):=yx A.out.2.own fun k e=>hs.below.block k (A.out.2.own.lt k e).2;obtain⟨vl,vn,_,v1,v2⟩:=hC5.1;have hY:=(yj d h k (Lj.take r) lvj ndj n' _ hU v1.hss v2.hss (by rw[List.length_take];omega) (by rw[hnl];omega)).1;have cu:=z2O w3 bc d W3.out.2 TX.out h k SP.out.1 (Lj.take r) a' r c' lvj ndj n' _ w5 (by rw[List.length_take];omega) (by have:=A.out.2.le;have:=HA.out.1;clear ej;omega) hU (by have:=A.out.2.cap;clear ej;omega) A.out.2.nil A.out.2.ind hL1 hC5 hrn' (by rw[hnl];clear ej;omega);rw[hnl,Nat.add_sub_cancel_left] at cu
    have Z5:Aside (w5.ownsRow w3.heap.size 23 32 u11 j (za out)/\(Lj.drop r).length=n' - r/\n' - r<=n/\RISES (Lj.drop r)/\n' - r<=c' - r/\(a2=none->c' - r=0)/\INDB w3 bc a2/\NUML w3 a2 (Lj.drop r)/\AMID ((k+1)*2 ^ h) N (Lj.drop r)/\Tile ((k+1)*2 ^ h) ((TPS N).drop (j+1)) N/\MUPS d (TPS N) L lv nd=out ++ (MUP d h k (Lj.take r) lvj ndj).1 ++ MUPS d ((TPS N).drop (j+1)) (Lj.drop r) (MUP d h k (Lj.take r) lvj ndj).2.1 (MUP d h k (Lj.take r) lvj ndj).2.2/\j+1+q=m/\j<=64):=by
     refine⟨hO5,by rw[List.length_drop,A.out.2.len],by have:=A.out.2.le;clear ej;omega,A.out.2.rise.drop r,by have:=A.out.2.cap;clear ej;omega,hs.nil,hind2,hL2,A.out.2.amid.drop hs.rank,htile.2.2,?_,by have:=A.out.1;clear ej;omega,by have:=A.out.1;have:=R1.out.2.1;have:=HA.out.2.2.1;clear ej;omega⟩;rw[A.out.2.all,hmups,List.append_assoc]
    clear hs htile hU hneed hmups hrn hind2 hL2 hL1 hnl hC5 hO5 v1 v2 A;have y32:=hY.1;generalize (MUP d h k (Lj.take r) lvj ndj).1=Y at *
    generalize (MUP d h k (Lj.take r) lvj ndj).2.1=lv2 at *
    generalize (MUP d h k (Lj.take r) lvj ndj).2.2=nd2 at *
    generalize c' - r=c2 at *
    obtain⟨n2,hn2⟩:∃ n2,n' - r=n2:=⟨_,rfl⟩
    rw[hn2] at cu Z5 ⊢;clear hn2 hrn';go_wp2_with fail
    refine cu.mono ?_;rintro e w6 ⟨rfl,h6,h7⟩;clear cu;have O6:Aside (w6.ownsRow w3.heap.size 23 32 u11 j (za out)):=yx Z5.out.1 fun k e=>h7.1 k (Z5.out.1.lt k e).2 (by have:=(Z5.out.1.lt k e).1;have:=W3.out.2;clear ej;omega);have C6:Aside (CLB w3 w6 bc d lv2 nd2 n2 (zc ((TPS N).drop (j+1)) (Lj.drop r)).length/\w3.heap.size<=w6.heap.size):=⟨h6,h6.2.2.size⟩
    clear h6 h7
    go_wp2_with (first
     | (refine yM _ rfl 26 23 (.tmp 41) rfl (za Y).toArray rfl 32 _ _ Tryz.underlying26 yQ (by simp[za,y32]) rfl (by decide) (by decide) ?_)
     | (at_builtin;refine jz _ rfl (.tmp 38) (.tmp 42) rfl w3.heap.size u11 j _ rfl (O6.out.alloc _) _ 1 Y y32 rfl (Has.new _ _ _) (by have:=Z5.out;clear ej;omega) (by have:=C6.out.2;simp;clear ej;omega) ?_;intro g7 c7 w7 hown hgrow hat hg))
    have Z7:Aside (j+1+q=m/\CLJ d N L lv nd w3 w2 w7 0 bc g n (j+1) n2 c2 a2 (Lj.drop r) lv2 nd2 (.slice (some ⟨g7,0,none⟩) (j+1) c7) (out ++ Y) ((k+1)*2 ^ h)):=by
     obtain⟨z1,z2,z3,z4,z5,z6,z7,z8,z9,z10,z11,z12,z13⟩:=Z5.out;have hsz:=vh hgrow;simp at hsz;have hbb:∀ q,q<w6.heap.size->u11.ownBlock≠some q->w7.heap[q]?=w6.heap[q]?:=fun q hq hne=>(hgrow.block q (by simp;omega) fun e=>hne e.symm).trans (Below.heap_alloc w6 _ q hq);refine⟨z12,z2,z3,z4,z5,z6,z7,z8,?_,z9,z10,z11,by rw[yp];exact hown⟩;obtain⟨⟨vl,vn,q1,q2,q3⟩,q4⟩:=C6.out.1;have hne:u11.ownBlock≠some bc:=fun e=>by have:=(O6.out.lt bc e).1;have:=W3.out.2;clear ej;omega
     refine⟨⟨vl,vn,(hbb bc q1.lt hne).trans q1,q2,q3⟩,⟨fun q hq hnb=>(hbb q (by have:=C6.out.2;clear ej;omega) (fun e=>by have:=(O6.out.lt q e).1;clear ej;omega)).trans (q4.1 q hq hnb),?_⟩⟩;refine(q4.2.alloc (by have:=C6.out.2;have:=W3.out.2;clear ej;omega) _).grown hgrow (by have:=C6.out.2;have:=W3.out.2;simp;clear ej;omega) (fun k e=>?_);have:=(O6.out.lt k e).1;have:=W3.out.2;clear ej;omega
    clear hown hgrow hat hg O6 C6 Z5 hY y32 SP;go_wp2;go_roundg q
    case measure=>exact Nat.lt_succ_self _
    case rel=>exact⟨j+1,n2,c2,a2,Lj.drop r,lv2,nd2,out ++ Y,(k+1)*2 ^ h,rfl,by first | rfl | (rw[ej]),Z7.out⟩
end Go.Proofs.YtobaogpomcocpaaGreatDoor
