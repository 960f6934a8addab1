/- Texts of ClashMembers, one behind the other: ClashBytes, ClashAbc. -/
import Derived.Test.YtbmjoiiagldklaaGreatDoorClashMembersP12
import Derived.Test.YtbmjoiiagldklaaGreatDoorClashMembersP13
import Derived.Test.YtbmjoiiagldklaaGreatDoorClashMembersP29
import Derived.Test.YtbmjoiiagldklaaGreatDoorClashMembersP37
namespace Go.Proofs.YtbmjoiiagldklaaGreatDoor
open Go.RowKit
set_option maxRecDepth 100000
set_option maxHeartbeats 1000000 in
theorem z9m (a:Option Addr) (n c:Nat) (hn:n≤1000000) (hc:a=none→c=0) (l:List Int) (w:World) (hB:Bytes w a n l):Calls Tryz.prog 7 #[.slice a n c] w (zag w n l):=by
  have HA:Aside (n≤1000000∧(a=none→c=0)∧Bytes w a n l):=⟨hn,hc,hB⟩
  clear hn hc hB
  go_enter Tryz.func7,Tryz.ntmps7
  go_wp2_with (at_builtin;first
    | (refine z3K _ rfl (.tmp 3) (.tmp 4) rfl w.heap.size (.slice (some ⟨w.heap.size,0,none⟩) 0 0) 0 [] rfl (z5I w _ (Nat.le_refl _)) a n c l rfl (HA.out.2.2.below ((Below.refl _ _).alloc (Nat.le_refl _) _)) HA.out.2.1 n l (Nat.zero_add n) rfl (by have:=HA.out.1;omega) (by simp) ?_;intro a1 c1 w1 hown1 hgrow1
       have R1:Aside (w1.ownsRow w.heap.size 5 1 (.slice a1 n c1) n (z01 l)∧Below w.heap.size w w1):=⟨hown1,((Below.refl _ w).alloc (Nat.le_refl _) _).grown hgrow1 (by simp) (fun k e=>by cases e;exact Nat.le_refl _)⟩
       clear hown1 hgrow1)
    | (refine z1t _ rfl (.tmp 5) (.tmp 6) rfl w.heap.size (.slice a1 n c1) n l rfl (R1.out.1.alloc _) w1.heap.size 0 1 1 [171] rfl (z3n w1 171 (by decide) (by decide)) (by decide) (by have:=HA.out.1;omega) (by have:=R1.out.2.size;simp;omega) ?_;intro g2 c2 w2 hown2 hgrow2 hg2
       obtain ⟨f1,f2,f3⟩:=zeM hown2 HA.out.2.2.1
       have hcap:(n:Int)≤(c2:Int):=by omega
       have R2:Aside (w2.ownsRow w.heap.size 5 1 (.slice (some ⟨g2,0,none⟩) n c2) n (z01 l)∧n+1≤c2∧w2.cell? ⟨g2,n,none⟩=some (.int .u8 171)∧g2<w2.heap.size∧Below w.heap.size w w2):=⟨f1,f2,f3,hg2,(R1.out.2.alloc R1.out.2.size _).grown hgrow2 (by have:=R1.out.2.size;simp;omega) (fun k e=>(R1.out.1.lt k e).1)⟩
       clear hown2 hgrow2 hg2 f1 f2 f3))
  go_ret
  exact ⟨_,_,rfl,R2.out⟩
set_option maxHeartbeats 1000000 in
theorem z7T (g n cap:Nat) (y:Option Addr) (cy:Nat) (l:List Int) (hn:n≤100000) (hc:n+1≤cap) (w:World) (hA:Bytes w (some ⟨g,0,none⟩) n l) (hB:Bytes w y n l) (hg:g<w.heap.size) (hm:w.cell? ⟨g,n,none⟩=some (.int .u8 171)):
    Calls Tryz.prog 11 #[.slice (some ⟨g,0,none⟩) n cap,.slice y n cy] w fun e w'=>e=.returned (.bool true)∧Below w.heap.size w w':=by
  have cs:=z1E (some ⟨g,0,none⟩) y n n cap cy l l w hA hB (by omega)
  rw [decide_eq_true rfl] at cs
  have e1:wrap64 ((n:Int)+1)=((n+1:Nat):Int):=by unfold wrap64;omega
  have k1:(n:Int)+1≤(cap:Int):=by omega
  have k2:(n:Int)<(n:Int)+1:=by omega
  have HM:Aside (g<w.heap.size∧w.cell? ⟨g,n,none⟩=some (.int .u8 171)):=⟨hg,hm⟩
  clear hn hA hB hg hm
  go_enter Tryz.func11,Tryz.ntmps11
  go_wp2_with fail
  refine cs.mono ?_
  rintro e w1 ⟨rfl,hb1⟩
  have x0:w1.cell? ⟨g,n,none⟩=some (.int .u8 171):=(hb1.cell (p:=⟨g,n,none⟩) HM.out.1).trans HM.out.2
  have FN:Aside (Below w.heap.size w w1):=hb1
  clear cs hb1 HM
  go_wp2_with fail
  go_ret
  exact ⟨rfl,FN.out⟩
theorem z3y {b:List Int} (hr:∀ x∈b,0≤x∧x≤255) (h:(DEC b).1=0):(DEC b).2.2.2.2.length=32*(DEC b).2.2.2.1∧∀ z∈(DEC b).2.2.2.2,0≤z∧z≤255:=by
  obtain ⟨E,S,I,N,t,hD⟩:∃ E S I N t,DEC b=(E,S,I,N,t):=⟨_,_,_,_,_,rfl⟩
  rw [hD] at h ⊢
  dsimp only at h ⊢
  subst h
  obtain ⟨_,_,_,_,_,h6,_,h8⟩:=z8n hr hD
  exact ⟨h6,h8⟩
end Go.Proofs.YtbmjoiiagldklaaGreatDoor

namespace Go.Proofs.YtbmjoiiagldklaaGreatDoor.HX
open Go.RowKit
def z03:Nat→Nat:=BLK ([0] ++ END 1) 0
theorem zfn:SCH z03 0=8388608:=(z0l z03 0 (by decide)).trans (by kernel_rfl)
theorem zaI:SCH z03 1=0:=(z0l z03 1 (by decide)).trans (by kernel_rfl)
theorem zaJ:SCH z03 2=0:=(z0l z03 2 (by decide)).trans (by kernel_rfl)
theorem zaK:SCH z03 3=0:=(z0l z03 3 (by decide)).trans (by kernel_rfl)
theorem zaL:SCH z03 4=0:=(z0l z03 4 (by decide)).trans (by kernel_rfl)
theorem zaM:SCH z03 5=0:=(z0l z03 5 (by decide)).trans (by kernel_rfl)
theorem zaN:SCH z03 6=0:=(z0l z03 6 (by decide)).trans (by kernel_rfl)
theorem zaO:SCH z03 7=0:=(z0l z03 7 (by decide)).trans (by kernel_rfl)
theorem zaP:SCH z03 8=0:=(z0l z03 8 (by decide)).trans (by kernel_rfl)
theorem z7U:SCH z03 9=0:=(z0l z03 9 (by decide)).trans (by kernel_rfl)
theorem z6f:SCH z03 10=0:=(z0l z03 10 (by decide)).trans (by kernel_rfl)
theorem z6g:SCH z03 11=0:=(z0l z03 11 (by decide)).trans (by kernel_rfl)
theorem z6h:SCH z03 12=0:=(z0l z03 12 (by decide)).trans (by kernel_rfl)
theorem z6i:SCH z03 13=0:=(z0l z03 13 (by decide)).trans (by kernel_rfl)
theorem z3Q:SCH z03 14=0:=(z0l z03 14 (by decide)).trans (by kernel_rfl)
theorem z3R:SCH z03 15=8:=(z0l z03 15 (by decide)).trans (by kernel_rfl)
theorem z3S:SCH z03 16=8388608:=z06 z03 0 _ _ _ _ _ (by decide) z3Q z7U zaI zfn (by kernel_rfl)
theorem z3T:SCH z03 17=327680:=z06 z03 1 _ _ _ _ _ (by decide) z3R z6f zaJ zaI (by kernel_rfl)
theorem z3U:SCH z03 18=8272:=z06 z03 2 _ _ _ _ _ (by decide) z3S z6g zaK zaJ (by kernel_rfl)
theorem z3V:SCH z03 19=536871234:=z06 z03 3 _ _ _ _ _ (by decide) z3T z6h zaL zaK (by kernel_rfl)
theorem z3W:SCH z03 20=337772552:=z06 z03 4 _ _ _ _ _ (by decide) z3U z6i zaM zaL (by kernel_rfl)
theorem z3X:SCH z03 21=8475648:=z06 z03 5 _ _ _ _ _ (by decide) z3V z3Q zaN zaM (by kernel_rfl)
theorem z3Y:SCH z03 22=1073741853:=z06 z03 6 _ _ _ _ _ (by decide) z3W z3R zaO zaN (by kernel_rfl)
theorem z3Z:SCH z03 23=2164269061:=z06 z03 7 _ _ _ _ _ (by decide) z3X z3S zaP zaO (by kernel_rfl)
theorem z40:SCH z03 24=2230272:=z06 z03 8 _ _ _ _ _ (by decide) z3Y z3T z7U zaP (by kernel_rfl)
theorem z41:SCH z03 25=337793272:=z06 z03 9 _ _ _ _ _ (by decide) z3Z z3U z6f z7U (by kernel_rfl)
theorem z42:SCH z03 26=1694501337:=z06 z03 10 _ _ _ _ _ (by decide) z40 z3V z6g z6f (by kernel_rfl)
theorem z43:SCH z03 27=1988624393:=z06 z03 11 _ _ _ _ _ (by decide) z41 z3W z6h z6g (by kernel_rfl)
theorem z44:SCH z03 28=105919010:=z06 z03 12 _ _ _ _ _ (by decide) z42 z3X z6i z6h (by kernel_rfl)
theorem z45:SCH z03 29=1075328946:=z06 z03 13 _ _ _ _ _ (by decide) z43 z3Y z3Q z6i (by kernel_rfl)
theorem z46:SCH z03 30=2958489588:=z06 z03 14 _ _ _ _ _ (by decide) z44 z3Z z3R z3Q (by kernel_rfl)
theorem z47:SCH z03 31=494040618:=z06 z03 15 _ _ _ _ _ (by decide) z45 z40 z3S z3R (by kernel_rfl)
theorem z48:SCH z03 32=4190885525:=z06 z03 16 _ _ _ _ _ (by decide) z46 z41 z3T z3S (by kernel_rfl)
theorem z49:SCH z03 33=2196774829:=z06 z03 17 _ _ _ _ _ (by decide) z47 z42 z3U z3T (by kernel_rfl)
theorem z4a:SCH z03 34=2285820332:=z06 z03 18 _ _ _ _ _ (by decide) z48 z43 z3V z3U (by kernel_rfl)
theorem z4b:SCH z03 35=3305243022:=z06 z03 19 _ _ _ _ _ (by decide) z49 z44 z3W z3V (by kernel_rfl)
theorem z4c:SCH z03 36=1628256880:=z06 z03 20 _ _ _ _ _ (by decide) z4a z45 z3X z3W (by kernel_rfl)
theorem z4d:SCH z03 37=606574232:=z06 z03 21 _ _ _ _ _ (by decide) z4b z46 z3Y z3X (by kernel_rfl)
theorem z4e:SCH z03 38=2869189168:=z06 z03 22 _ _ _ _ _ (by decide) z4c z47 z3Z z3Y (by kernel_rfl)
theorem z4f:SCH z03 39=912661284:=z06 z03 23 _ _ _ _ _ (by decide) z4d z48 z40 z3Z (by kernel_rfl)
theorem z4g:SCH z03 40=2417538391:=z06 z03 24 _ _ _ _ _ (by decide) z4e z49 z41 z40 (by kernel_rfl)
theorem z4h:SCH z03 41=662210437:=z06 z03 25 _ _ _ _ _ (by decide) z4f z4a z42 z41 (by kernel_rfl)
theorem z4i:SCH z03 42=2456130860:=z06 z03 26 _ _ _ _ _ (by decide) z4g z4b z43 z42 (by kernel_rfl)
theorem z4j:SCH z03 43=1931430815:=z06 z03 27 _ _ _ _ _ (by decide) z4h z4c z44 z43 (by kernel_rfl)
theorem z4k:SCH z03 44=67023220:=z06 z03 28 _ _ _ _ _ (by decide) z4i z4d z45 z44 (by kernel_rfl)
theorem z4l:SCH z03 45=2052358436:=z06 z03 29 _ _ _ _ _ (by decide) z4j z4e z46 z45 (by kernel_rfl)
theorem z4m:SCH z03 46=1064287929:=z06 z03 30 _ _ _ _ _ (by decide) z4k z4f z47 z46 (by kernel_rfl)
theorem z4n:SCH z03 47=1067640270:=z06 z03 31 _ _ _ _ _ (by decide) z4l z4g z48 z47 (by kernel_rfl)
theorem z6j:SCH z03 48=2524529989:=z06 z03 32 _ _ _ _ _ (by decide) z4m z4h z49 z48 (by kernel_rfl)
theorem z8u:SCH z03 49=1109617150:=z06 z03 33 _ _ _ _ _ (by decide) z4n z4i z4a z49 (by kernel_rfl)
theorem z8v:SCH z03 50=181928543:=z06 z03 34 _ _ _ _ _ (by decide) z6j z4j z4b z4a (by kernel_rfl)
theorem z8w:SCH z03 51=1162918410:=z06 z03 35 _ _ _ _ _ (by decide) z8u z4k z4c z4b (by kernel_rfl)
theorem z8x:SCH z03 52=2922595010:=z06 z03 36 _ _ _ _ _ (by decide) z8v z4l z4d z4c (by kernel_rfl)
theorem z8y:SCH z03 53=279395504:=z06 z03 37 _ _ _ _ _ (by decide) z8w z4m z4e z4d (by kernel_rfl)
theorem z8z:SCH z03 54=2082656472:=z06 z03 38 _ _ _ _ _ (by decide) z8x z4n z4f z4e (by kernel_rfl)
theorem z8A:SCH z03 55=3609216951:=z06 z03 39 _ _ _ _ _ (by decide) z8y z6j z4g z4f (by kernel_rfl)
theorem z8B:SCH z03 56=870645911:=z06 z03 40 _ _ _ _ _ (by decide) z8z z8u z4h z4g (by kernel_rfl)
theorem zcl:SCH z03 57=2341257311:=z06 z03 41 _ _ _ _ _ (by decide) z8A z8v z4i z4h (by kernel_rfl)
theorem zcm:SCH z03 58=3664634151:=z06 z03 42 _ _ _ _ _ (by decide) z8B z8w z4j z4i (by kernel_rfl)
theorem zcn:SCH z03 59=1568575899:=z06 z03 43 _ _ _ _ _ (by decide) zcl z8x z4k z4j (by kernel_rfl)
theorem zco:SCH z03 60=3374228186:=z06 z03 44 _ _ _ _ _ (by decide) zcm z8y z4l z4k (by kernel_rfl)
theorem zcp:SCH z03 61=731796513:=z06 z03 45 _ _ _ _ _ (by decide) zcn z8z z4m z4l (by kernel_rfl)
theorem zhT:SCH z03 62=3196917518:=z06 z03 46 _ _ _ _ _ (by decide) zco z8A z4n z4m (by kernel_rfl)
theorem zhU:SCH z03 63=483982666:=z06 z03 47 _ _ _ _ _ (by decide) zcp z8B z6j z4n (by kernel_rfl)
theorem zkg:RUN (SCH z03) (STOF (z07 1)) 0=⟨1778384896,0,0,0,0,0,0,0⟩:=by kernel_rfl
theorem zkh:RUN (SCH z03) (STOF (z07 1)) 1=⟨1569554752,1778384896,0,0,1124741016,0,0,0⟩:=z02 _ _ _ _ 0 _ zkg zfn (by kernel_rfl)
theorem zki:RUN (SCH z03) (STOF (z07 1)) 2=⟨4222572469,1569554752,1778384896,0,2286602859,1124741016,0,0⟩:=z02 _ _ _ _ 1 _ zkh zaI (by kernel_rfl)
theorem zkj:RUN (SCH z03) (STOF (z07 1)) 3=⟨1973943812,4222572469,1569554752,1778384896,2080382347,2286602859,1124741016,0⟩:=z02 _ _ _ _ 2 _ zki zaJ (by kernel_rfl)
theorem zkk:RUN (SCH z03) (STOF (z07 1)) 4=⟨2176017911,1973943812,4222572469,1569554752,4216408971,2080382347,2286602859,1124741016⟩:=z02 _ _ _ _ 3 _ zkj zaK (by kernel_rfl)
theorem zkl:RUN (SCH z03) (STOF (z07 1)) 5=⟨3734104429,2176017911,1973943812,4222572469,1211164696,4216408971,2080382347,2286602859⟩:=z02 _ _ _ _ 4 _ zkk zaL (by kernel_rfl)
theorem zkm:RUN (SCH z03) (STOF (z07 1)) 6=⟨701311635,3734104429,2176017911,1973943812,3562625845,1211164696,4216408971,2080382347⟩:=z02 _ _ _ _ 5 _ zkl zaM (by kernel_rfl)
theorem zkn:RUN (SCH z03) (STOF (z07 1)) 7=⟨1248333783,701311635,3734104429,2176017911,2352896890,3562625845,1211164696,4216408971⟩:=z02 _ _ _ _ 6 _ zkm zaN (by kernel_rfl)
theorem zko:RUN (SCH z03) (STOF (z07 1)) 8=⟨1539023587,1248333783,701311635,3734104429,2256981863,2352896890,3562625845,1211164696⟩:=z02 _ _ _ _ 7 _ zkn zaO (by kernel_rfl)
theorem zkp:RUN (SCH z03) (STOF (z07 1)) 9=⟨2710456615,1539023587,1248333783,701311635,79122358,2256981863,2352896890,3562625845⟩:=z02 _ _ _ _ 8 _ zko zaP (by kernel_rfl)
theorem zhV:RUN (SCH z03) (STOF (z07 1)) 10=⟨3439637277,2710456615,1539023587,1248333783,313381132,79122358,2256981863,2352896890⟩:=z02 _ _ _ _ 9 _ zkp z7U (by kernel_rfl)
theorem zhW:RUN (SCH z03) (STOF (z07 1)) 11=⟨1059679379,3439637277,2710456615,1539023587,3332351341,313381132,79122358,2256981863⟩:=z02 _ _ _ _ 10 _ zhV z6f (by kernel_rfl)
theorem zhX:RUN (SCH z03) (STOF (z07 1)) 12=⟨4020210676,1059679379,3439637277,2710456615,2406274861,3332351341,313381132,79122358⟩:=z02 _ _ _ _ 11 _ zhW z6g (by kernel_rfl)
theorem zhY:RUN (SCH z03) (STOF (z07 1)) 13=⟨4251448236,4020210676,1059679379,3439637277,2507752319,2406274861,3332351341,313381132⟩:=z02 _ _ _ _ 12 _ zhX z6h (by kernel_rfl)
theorem zhZ:RUN (SCH z03) (STOF (z07 1)) 14=⟨3315789819,4251448236,4020210676,1059679379,1434915651,2507752319,2406274861,3332351341⟩:=z02 _ _ _ _ 13 _ zhY z6i (by kernel_rfl)
theorem zi0:RUN (SCH z03) (STOF (z07 1)) 15=⟨2605442691,3315789819,4251448236,4020210676,3888377115,1434915651,2507752319,2406274861⟩:=z02 _ _ _ _ 14 _ zhZ z3Q (by kernel_rfl)
theorem zi1:RUN (SCH z03) (STOF (z07 1)) 16=⟨2928761735,2605442691,3315789819,4251448236,3279475262,3888377115,1434915651,2507752319⟩:=z02 _ _ _ _ 15 _ zi0 z3R (by kernel_rfl)
theorem zi2:RUN (SCH z03) (STOF (z07 1)) 17=⟨1435774498,2928761735,2605442691,3315789819,1350628730,3279475262,3888377115,1434915651⟩:=z02 _ _ _ _ 16 _ zi1 z3S (by kernel_rfl)
theorem zi3:RUN (SCH z03) (STOF (z07 1)) 18=⟨2271313641,1435774498,2928761735,2605442691,4171485666,1350628730,3279475262,3888377115⟩:=z02 _ _ _ _ 17 _ zi2 z3T (by kernel_rfl)
theorem zi4:RUN (SCH z03) (STOF (z07 1)) 19=⟨3434424895,2271313641,1435774498,2928761735,3439316851,4171485666,1350628730,3279475262⟩:=z02 _ _ _ _ 18 _ zi3 z3U (by kernel_rfl)
theorem zi5:RUN (SCH z03) (STOF (z07 1)) 20=⟨2064137751,3434424895,2271313641,1435774498,3983055711,3439316851,4171485666,1350628730⟩:=z02 _ _ _ _ 19 _ zi4 z3V (by kernel_rfl)
theorem zi6:RUN (SCH z03) (STOF (z07 1)) 21=⟨3978319571,2064137751,3434424895,2271313641,1695661198,3983055711,3439316851,4171485666⟩:=z02 _ _ _ _ 20 _ zi5 z3W (by kernel_rfl)
theorem zi7:RUN (SCH z03) (STOF (z07 1)) 22=⟨196844315,3978319571,2064137751,3434424895,3648039147,1695661198,3983055711,3439316851⟩:=z02 _ _ _ _ 21 _ zi6 z3X (by kernel_rfl)
theorem zi8:RUN (SCH z03) (STOF (z07 1)) 23=⟨949404587,196844315,3978319571,2064137751,2781411491,3648039147,1695661198,3983055711⟩:=z02 _ _ _ _ 22 _ zi7 z3Y (by kernel_rfl)
theorem zi9:RUN (SCH z03) (STOF (z07 1)) 24=⟨3615058037,949404587,196844315,3978319571,2690382387,2781411491,3648039147,1695661198⟩:=z02 _ _ _ _ 23 _ zi8 z3Z (by kernel_rfl)
theorem zia:RUN (SCH z03) (STOF (z07 1)) 25=⟨2339409368,3615058037,949404587,196844315,2298733285,2690382387,2781411491,3648039147⟩:=z02 _ _ _ _ 24 _ zi9 z40 (by kernel_rfl)
theorem zib:RUN (SCH z03) (STOF (z07 1)) 26=⟨2945776766,2339409368,3615058037,949404587,2444276417,2298733285,2690382387,2781411491⟩:=z02 _ _ _ _ 25 _ zia z41 (by kernel_rfl)
theorem zic:RUN (SCH z03) (STOF (z07 1)) 27=⟨2375569102,2945776766,2339409368,3615058037,450653431,2444276417,2298733285,2690382387⟩:=z02 _ _ _ _ 26 _ zib z42 (by kernel_rfl)
theorem zid:RUN (SCH z03) (STOF (z07 1)) 28=⟨3628695708,2375569102,2945776766,2339409368,1812518636,450653431,2444276417,2298733285⟩:=z02 _ _ _ _ 27 _ zic z43 (by kernel_rfl)
theorem zie:RUN (SCH z03) (STOF (z07 1)) 29=⟨4208130110,3628695708,2375569102,2945776766,3820218414,1812518636,450653431,2444276417⟩:=z02 _ _ _ _ 28 _ zid z44 (by kernel_rfl)
theorem zif:RUN (SCH z03) (STOF (z07 1)) 30=⟨2497727348,4208130110,3628695708,2375569102,922282977,3820218414,1812518636,450653431⟩:=z02 _ _ _ _ 29 _ zie z45 (by kernel_rfl)
theorem zig:RUN (SCH z03) (STOF (z07 1)) 31=⟨2578038873,2497727348,4208130110,3628695708,1322245983,922282977,3820218414,1812518636⟩:=z02 _ _ _ _ 30 _ zif z46 (by kernel_rfl)
theorem zih:RUN (SCH z03) (STOF (z07 1)) 32=⟨2472758969,2578038873,2497727348,4208130110,254028699,1322245983,922282977,3820218414⟩:=z02 _ _ _ _ 31 _ zig z47 (by kernel_rfl)
theorem zii:RUN (SCH z03) (STOF (z07 1)) 33=⟨4285286369,2472758969,2578038873,2497727348,3425650349,254028699,1322245983,922282977⟩:=z02 _ _ _ _ 32 _ zih z48 (by kernel_rfl)
theorem zij:RUN (SCH z03) (STOF (z07 1)) 34=⟨4182240021,4285286369,2472758969,2578038873,15958569,3425650349,254028699,1322245983⟩:=z02 _ _ _ _ 33 _ zii z49 (by kernel_rfl)
theorem zik:RUN (SCH z03) (STOF (z07 1)) 35=⟨16699018,4182240021,4285286369,2472758969,1710151699,15958569,3425650349,254028699⟩:=z02 _ _ _ _ 34 _ zij z4a (by kernel_rfl)
theorem zil:RUN (SCH z03) (STOF (z07 1)) 36=⟨1906129866,16699018,4182240021,4285286369,4231798443,1710151699,15958569,3425650349⟩:=z02 _ _ _ _ 35 _ zik z4b (by kernel_rfl)
theorem zim:RUN (SCH z03) (STOF (z07 1)) 37=⟨74614242,1906129866,16699018,4182240021,1529017948,4231798443,1710151699,15958569⟩:=z02 _ _ _ _ 36 _ zil z4c (by kernel_rfl)
theorem zin:RUN (SCH z03) (STOF (z07 1)) 38=⟨2837945848,74614242,1906129866,16699018,1029041734,1529017948,4231798443,1710151699⟩:=z02 _ _ _ _ 37 _ zim z4d (by kernel_rfl)
theorem zio:RUN (SCH z03) (STOF (z07 1)) 39=⟨1675082568,2837945848,74614242,1906129866,3886259970,1029041734,1529017948,4231798443⟩:=z02 _ _ _ _ 38 _ zin z4e (by kernel_rfl)
theorem zip:RUN (SCH z03) (STOF (z07 1)) 40=⟨4193763318,1675082568,2837945848,74614242,2915142648,3886259970,1029041734,1529017948⟩:=z02 _ _ _ _ 39 _ zio z4f (by kernel_rfl)
theorem ziq:RUN (SCH z03) (STOF (z07 1)) 41=⟨1244037441,4193763318,1675082568,2837945848,3312143236,2915142648,3886259970,1029041734⟩:=z02 _ _ _ _ 40 _ zip z4g (by kernel_rfl)
theorem zir:RUN (SCH z03) (STOF (z07 1)) 42=⟨3109154121,1244037441,4193763318,1675082568,872078261,3312143236,2915142648,3886259970⟩:=z02 _ _ _ _ 41 _ ziq z4h (by kernel_rfl)
theorem zis:RUN (SCH z03) (STOF (z07 1)) 43=⟨1709743759,3109154121,1244037441,4193763318,2359039326,872078261,3312143236,2915142648⟩:=z02 _ _ _ _ 42 _ zir z4i (by kernel_rfl)
theorem zit:RUN (SCH z03) (STOF (z07 1)) 44=⟨3272447000,1709743759,3109154121,1244037441,3291058517,2359039326,872078261,3312143236⟩:=z02 _ _ _ _ 43 _ zis z4j (by kernel_rfl)
theorem ziu:RUN (SCH z03) (STOF (z07 1)) 45=⟨1138132233,3272447000,1709743759,3109154121,106843099,3291058517,2359039326,872078261⟩:=z02 _ _ _ _ 44 _ zit z4k (by kernel_rfl)
theorem ziv:RUN (SCH z03) (STOF (z07 1)) 46=⟨2957313721,1138132233,3272447000,1709743759,52348160,106843099,3291058517,2359039326⟩:=z02 _ _ _ _ 45 _ ziu z4l (by kernel_rfl)
theorem ziw:RUN (SCH z03) (STOF (z07 1)) 47=⟨3335757086,2957313721,1138132233,3272447000,464556621,52348160,106843099,3291058517⟩:=z02 _ _ _ _ 46 _ ziv z4m (by kernel_rfl)
theorem zix:RUN (SCH z03) (STOF (z07 1)) 48=⟨2603131860,3335757086,2957313721,1138132233,2217216019,464556621,52348160,106843099⟩:=z02 _ _ _ _ 47 _ ziw z4n (by kernel_rfl)
theorem ziy:RUN (SCH z03) (STOF (z07 1)) 49=⟨1060794258,2603131860,3335757086,2957313721,1441646883,2217216019,464556621,52348160⟩:=z02 _ _ _ _ 48 _ zix z6j (by kernel_rfl)
theorem ziz:RUN (SCH z03) (STOF (z07 1)) 50=⟨2342988525,1060794258,2603131860,3335757086,2177914693,1441646883,2217216019,464556621⟩:=z02 _ _ _ _ 49 _ ziy z8u (by kernel_rfl)
theorem ziA:RUN (SCH z03) (STOF (z07 1)) 51=⟨2930670626,2342988525,1060794258,2603131860,824822720,2177914693,1441646883,2217216019⟩:=z02 _ _ _ _ 50 _ ziz z8v (by kernel_rfl)
theorem ziB:RUN (SCH z03) (STOF (z07 1)) 52=⟨3541169062,2930670626,2342988525,1060794258,3409823767,824822720,2177914693,1441646883⟩:=z02 _ _ _ _ 51 _ ziA z8w (by kernel_rfl)
theorem ziC:RUN (SCH z03) (STOF (z07 1)) 53=⟨4231826724,3541169062,2930670626,2342988525,1100153574,3409823767,824822720,2177914693⟩:=z02 _ _ _ _ 52 _ ziB z8x (by kernel_rfl)
theorem ziD:RUN (SCH z03) (STOF (z07 1)) 54=⟨20079379,4231826724,3541169062,2930670626,3934273405,1100153574,3409823767,824822720⟩:=z02 _ _ _ _ 53 _ ziC z8y (by kernel_rfl)
theorem ziE:RUN (SCH z03) (STOF (z07 1)) 55=⟨2235160533,20079379,4231826724,3541169062,1365152638,3934273405,1100153574,3409823767⟩:=z02 _ _ _ _ 54 _ ziD z8z (by kernel_rfl)
theorem ziF:RUN (SCH z03) (STOF (z07 1)) 56=⟨1120555960,2235160533,20079379,4231826724,1474721306,1365152638,3934273405,1100153574⟩:=z02 _ _ _ _ 55 _ ziE z8A (by kernel_rfl)
theorem ziG:RUN (SCH z03) (STOF (z07 1)) 57=⟨3790913903,1120555960,2235160533,20079379,951621451,1474721306,1365152638,3934273405⟩:=z02 _ _ _ _ 56 _ ziF z8B (by kernel_rfl)
theorem ziH:RUN (SCH z03) (STOF (z07 1)) 58=⟨3160874707,3790913903,1120555960,2235160533,3684248943,951621451,1474721306,1365152638⟩:=z02 _ _ _ _ 57 _ ziG zcl (by kernel_rfl)
theorem ziI:RUN (SCH z03) (STOF (z07 1)) 59=⟨310158089,3160874707,3790913903,1120555960,818986086,3684248943,951621451,1474721306⟩:=z02 _ _ _ _ 58 _ ziH zcm (by kernel_rfl)
theorem ziJ:RUN (SCH z03) (STOF (z07 1)) 60=⟨907003875,310158089,3160874707,3790913903,436861154,818986086,3684248943,951621451⟩:=z02 _ _ _ _ 59 _ ziI zcn (by kernel_rfl)
theorem ziK:RUN (SCH z03) (STOF (z07 1)) 61=⟨4176700544,907003875,310158089,3160874707,3606237390,436861154,818986086,3684248943⟩:=z02 _ _ _ _ 60 _ ziJ zco (by kernel_rfl)
theorem ziL:RUN (SCH z03) (STOF (z07 1)) 62=⟨1134256808,4176700544,907003875,310158089,4124671138,3606237390,436861154,818986086⟩:=z02 _ _ _ _ 61 _ ziK zcp (by kernel_rfl)
theorem ziM:RUN (SCH z03) (STOF (z07 1)) 63=⟨1529455603,1134256808,4176700544,907003875,2463922909,4124671138,3606237390,436861154⟩:=z02 _ _ _ _ 62 _ ziL zhT (by kernel_rfl)
theorem ziN:RUN (SCH z03) (STOF (z07 1)) 64=⟨3786312650,1529455603,1134256808,4176700544,1277391920,2463922909,4124671138,3606237390⟩:=z02 _ _ _ _ 63 _ ziM zhU (by kernel_rfl)
theorem zfo:([0] ++ END 1).length / 64=1:=by rw [List.length_append,z5h];kernel_rfl
theorem zcq (d:Int):z0b d [0]=COMP d (z07 d) z03:=by
  show z0v d ([0] ++ END 1) (([0] ++ END 1).length / 64)=_
  rw [zfo]
  rfl
theorem zkq:OUTW (z07 1) z03 0=1269730250:=by
  rw [OUTW,ziN]
  kernel_rfl
theorem zgS:z0b 1 [0] 0=75:=by
  have h:=zkq
  rw [zcq,COMP]
  generalize OUTW (z07 1) z03=X at *
  rw [z0G,if_pos (by decide),z0i]
  show X 0 / 2 ^ 24 % 256=75
  rw [h]
def z04:Nat→Nat:=BLK ([118,4,1] ++ END 3) 0
theorem zfp:SCH z04 0=1979974016:=(z0l z04 0 (by decide)).trans (by kernel_rfl)
theorem zaQ:SCH z04 1=0:=(z0l z04 1 (by decide)).trans (by kernel_rfl)
theorem zaR:SCH z04 2=0:=(z0l z04 2 (by decide)).trans (by kernel_rfl)
theorem zaS:SCH z04 3=0:=(z0l z04 3 (by decide)).trans (by kernel_rfl)
theorem zaT:SCH z04 4=0:=(z0l z04 4 (by decide)).trans (by kernel_rfl)
theorem zaU:SCH z04 5=0:=(z0l z04 5 (by decide)).trans (by kernel_rfl)
theorem zaV:SCH z04 6=0:=(z0l z04 6 (by decide)).trans (by kernel_rfl)
theorem zaW:SCH z04 7=0:=(z0l z04 7 (by decide)).trans (by kernel_rfl)
theorem zaX:SCH z04 8=0:=(z0l z04 8 (by decide)).trans (by kernel_rfl)
theorem z7V:SCH z04 9=0:=(z0l z04 9 (by decide)).trans (by kernel_rfl)
theorem z6k:SCH z04 10=0:=(z0l z04 10 (by decide)).trans (by kernel_rfl)
theorem z6l:SCH z04 11=0:=(z0l z04 11 (by decide)).trans (by kernel_rfl)
theorem z6m:SCH z04 12=0:=(z0l z04 12 (by decide)).trans (by kernel_rfl)
theorem z6n:SCH z04 13=0:=(z0l z04 13 (by decide)).trans (by kernel_rfl)
theorem z4o:SCH z04 14=0:=(z0l z04 14 (by decide)).trans (by kernel_rfl)
theorem z4p:SCH z04 15=24:=(z0l z04 15 (by decide)).trans (by kernel_rfl)
theorem z4q:SCH z04 16=1979974016:=z06 z04 0 _ _ _ _ _ (by decide) z4o z7V zaQ zfp (by kernel_rfl)
theorem z4r:SCH z04 17=983040:=z06 z04 1 _ _ _ _ _ (by decide) z4p z6k zaR zaQ (by kernel_rfl)
theorem z4s:SCH z04 18=2163061954:=z06 z04 2 _ _ _ _ _ (by decide) z4q z6l zaS zaR (by kernel_rfl)
theorem z4t:SCH z04 19=1610613702:=z06 z04 3 _ _ _ _ _ (by decide) z4r z6m zaT zaS (by kernel_rfl)
theorem z4u:SCH z04 20=1826171654:=z06 z04 4 _ _ _ _ _ (by decide) z4s z6n zaU zaT (by kernel_rfl)
theorem z4v:SCH z04 21=25426944:=z06 z04 5 _ _ _ _ _ (by decide) z4t z4o zaV zaU (by kernel_rfl)
theorem z4w:SCH z04 22=2969095637:=z06 z04 6 _ _ _ _ _ (by decide) z4u z4p zaW zaV (by kernel_rfl)
theorem z4x:SCH z04 23=4152648078:=z06 z04 7 _ _ _ _ _ (by decide) z4v z4q zaX zaW (by kernel_rfl)
theorem z4y:SCH z04 24=2139836496:=z06 z04 8 _ _ _ _ _ (by decide) z4w z4r z7V zaX (by kernel_rfl)
theorem z4z:SCH z04 25=1035532524:=z06 z04 9 _ _ _ _ _ (by decide) z4x z4s z6k z7V (by kernel_rfl)
theorem z4A:SCH z04 26=574477990:=z06 z04 10 _ _ _ _ _ (by decide) z4y z4t z6l z6k (by kernel_rfl)
theorem z4B:SCH z04 27=3493732955:=z06 z04 11 _ _ _ _ _ (by decide) z4z z4u z6m z6l (by kernel_rfl)
theorem z4C:SCH z04 28=1393776172:=z06 z04 12 _ _ _ _ _ (by decide) z4A z4v z6n z6m (by kernel_rfl)
theorem z4D:SCH z04 29=2253089637:=z06 z04 13 _ _ _ _ _ (by decide) z4B z4w z4o z6n (by kernel_rfl)
theorem z4E:SCH z04 30=3914451151:=z06 z04 14 _ _ _ _ _ (by decide) z4C z4x z4p z4o (by kernel_rfl)
theorem z4F:SCH z04 31=1725417296:=z06 z04 15 _ _ _ _ _ (by decide) z4D z4y z4q z4p (by kernel_rfl)
theorem z4G:SCH z04 32=1359173215:=z06 z04 16 _ _ _ _ _ (by decide) z4E z4z z4r z4q (by kernel_rfl)
theorem z4H:SCH z04 33=903163568:=z06 z04 17 _ _ _ _ _ (by decide) z4F z4A z4s z4r (by kernel_rfl)
theorem z4I:SCH z04 34=2471326224:=z06 z04 18 _ _ _ _ _ (by decide) z4G z4B z4t z4s (by kernel_rfl)
theorem z4J:SCH z04 35=823774989:=z06 z04 19 _ _ _ _ _ (by decide) z4H z4C z4u z4t (by kernel_rfl)
theorem z4K:SCH z04 36=164009750:=z06 z04 20 _ _ _ _ _ (by decide) z4I z4D z4v z4u (by kernel_rfl)
theorem z4L:SCH z04 37=1464648138:=z06 z04 21 _ _ _ _ _ (by decide) z4J z4E z4w z4v (by kernel_rfl)
theorem z4M:SCH z04 38=3434644150:=z06 z04 22 _ _ _ _ _ (by decide) z4K z4F z4x z4w (by kernel_rfl)
theorem z4N:SCH z04 39=3161181620:=z06 z04 23 _ _ _ _ _ (by decide) z4L z4G z4y z4x (by kernel_rfl)
theorem z4O:SCH z04 40=3902173805:=z06 z04 24 _ _ _ _ _ (by decide) z4M z4H z4z z4y (by kernel_rfl)
theorem z4P:SCH z04 41=2918484029:=z06 z04 25 _ _ _ _ _ (by decide) z4N z4I z4A z4z (by kernel_rfl)
theorem z4Q:SCH z04 42=1875533432:=z06 z04 26 _ _ _ _ _ (by decide) z4O z4J z4B z4A (by kernel_rfl)
theorem z4R:SCH z04 43=914763908:=z06 z04 27 _ _ _ _ _ (by decide) z4P z4K z4C z4B (by kernel_rfl)
theorem z4S:SCH z04 44=275085993:=z06 z04 28 _ _ _ _ _ (by decide) z4Q z4L z4D z4C (by kernel_rfl)
theorem z4T:SCH z04 45=573475606:=z06 z04 29 _ _ _ _ _ (by decide) z4R z4M z4E z4D (by kernel_rfl)
theorem z4U:SCH z04 46=361142452:=z06 z04 30 _ _ _ _ _ (by decide) z4S z4N z4F z4E (by kernel_rfl)
theorem z4V:SCH z04 47=1164267732:=z06 z04 31 _ _ _ _ _ (by decide) z4T z4O z4G z4F (by kernel_rfl)
theorem z6o:SCH z04 48=3418278767:=z06 z04 32 _ _ _ _ _ (by decide) z4U z4P z4H z4G (by kernel_rfl)
theorem z8C:SCH z04 49=399282407:=z06 z04 33 _ _ _ _ _ (by decide) z4V z4Q z4I z4H (by kernel_rfl)
theorem z8D:SCH z04 50=4131314663:=z06 z04 34 _ _ _ _ _ (by decide) z6o z4R z4J z4I (by kernel_rfl)
theorem z8E:SCH z04 51=2765668782:=z06 z04 35 _ _ _ _ _ (by decide) z8C z4S z4K z4J (by kernel_rfl)
theorem z8F:SCH z04 52=2430419203:=z06 z04 36 _ _ _ _ _ (by decide) z8D z4T z4L z4K (by kernel_rfl)
theorem z8G:SCH z04 53=977460674:=z06 z04 37 _ _ _ _ _ (by decide) z8E z4U z4M z4L (by kernel_rfl)
theorem z8H:SCH z04 54=2822496742:=z06 z04 38 _ _ _ _ _ (by decide) z8F z4V z4N z4M (by kernel_rfl)
theorem z8I:SCH z04 55=400227469:=z06 z04 39 _ _ _ _ _ (by decide) z8G z6o z4O z4N (by kernel_rfl)
theorem z8J:SCH z04 56=3660752544:=z06 z04 40 _ _ _ _ _ (by decide) z8H z8C z4P z4O (by kernel_rfl)
theorem zcr:SCH z04 57=817825870:=z06 z04 41 _ _ _ _ _ (by decide) z8I z8D z4Q z4P (by kernel_rfl)
theorem zcs:SCH z04 58=2666717932:=z06 z04 42 _ _ _ _ _ (by decide) z8J z8E z4R z4Q (by kernel_rfl)
theorem zct:SCH z04 59=990676170:=z06 z04 43 _ _ _ _ _ (by decide) zcr z8F z4S z4R (by kernel_rfl)
theorem zcu:SCH z04 60=41467273:=z06 z04 44 _ _ _ _ _ (by decide) zcs z8G z4T z4S (by kernel_rfl)
theorem zcv:SCH z04 61=1779687944:=z06 z04 45 _ _ _ _ _ (by decide) zct z8H z4U z4T (by kernel_rfl)
theorem ziO:SCH z04 62=1793738367:=z06 z04 46 _ _ _ _ _ (by decide) zcu z8I z4V z4U (by kernel_rfl)
theorem ziP:SCH z04 63=556993083:=z06 z04 47 _ _ _ _ _ (by decide) zcv z8J z6o z4V (by kernel_rfl)
theorem zkr:RUN (SCH z04) (STOF (z07 1)) 0=⟨1778384896,0,0,0,0,0,0,0⟩:=by kernel_rfl
theorem zks:RUN (SCH z04) (STOF (z07 1)) 1=⟨3541140160,1778384896,0,0,3096326424,0,0,0⟩:=z02 _ _ _ _ 0 _ zkr zfp (by kernel_rfl)
theorem zkt:RUN (SCH z04) (STOF (z07 1)) 2=⟨518972767,3541140160,1778384896,0,2015685103,3096326424,0,0⟩:=z02 _ _ _ _ 1 _ zks zaQ (by kernel_rfl)
theorem zku:RUN (SCH z04) (STOF (z07 1)) 3=⟨823603192,518972767,3541140160,1778384896,2151710045,2015685103,3096326424,0⟩:=z02 _ _ _ _ 2 _ zkt zaR (by kernel_rfl)
theorem zkv:RUN (SCH z04) (STOF (z07 1)) 4=⟨1646737287,823603192,518972767,3541140160,2312367148,2151710045,2015685103,3096326424⟩:=z02 _ _ _ _ 3 _ zku zaS (by kernel_rfl)
theorem zkw:RUN (SCH z04) (STOF (z07 1)) 5=⟨3944590842,1646737287,823603192,518972767,2476427147,2312367148,2151710045,2015685103⟩:=z02 _ _ _ _ 4 _ zkv zaT (by kernel_rfl)
theorem zkx:RUN (SCH z04) (STOF (z07 1)) 6=⟨1833458740,3944590842,1646737287,823603192,2239248730,2476427147,2312367148,2151710045⟩:=z02 _ _ _ _ 5 _ zkw zaU (by kernel_rfl)
theorem zky:RUN (SCH z04) (STOF (z07 1)) 7=⟨3758396031,1833458740,3944590842,1646737287,3398227911,2239248730,2476427147,2312367148⟩:=z02 _ _ _ _ 6 _ zkx zaV (by kernel_rfl)
theorem zkz:RUN (SCH z04) (STOF (z07 1)) 8=⟨3397932324,3758396031,1833458740,3944590842,3387626738,3398227911,2239248730,2476427147⟩:=z02 _ _ _ _ 7 _ zky zaW (by kernel_rfl)
theorem zkA:RUN (SCH z04) (STOF (z07 1)) 9=⟨2080980631,3397932324,3758396031,1833458740,3293431356,3387626738,3398227911,2239248730⟩:=z02 _ _ _ _ 8 _ zkz zaX (by kernel_rfl)
theorem ziQ:RUN (SCH z04) (STOF (z07 1)) 10=⟨1820021603,2080980631,3397932324,3758396031,3799492420,3293431356,3387626738,3398227911⟩:=z02 _ _ _ _ 9 _ zkA z7V (by kernel_rfl)
theorem ziR:RUN (SCH z04) (STOF (z07 1)) 11=⟨2460203053,1820021603,2080980631,3397932324,1498855634,3799492420,3293431356,3387626738⟩:=z02 _ _ _ _ 10 _ ziQ z6k (by kernel_rfl)
theorem ziS:RUN (SCH z04) (STOF (z07 1)) 12=⟨2199493052,2460203053,1820021603,2080980631,2790385501,1498855634,3799492420,3293431356⟩:=z02 _ _ _ _ 11 _ ziR z6l (by kernel_rfl)
theorem ziT:RUN (SCH z04) (STOF (z07 1)) 13=⟨987827534,2199493052,2460203053,1820021603,2842306057,2790385501,1498855634,3799492420⟩:=z02 _ _ _ _ 12 _ ziS z6m (by kernel_rfl)
theorem ziU:RUN (SCH z04) (STOF (z07 1)) 14=⟨2580340481,987827534,2199493052,2460203053,313126024,2842306057,2790385501,1498855634⟩:=z02 _ _ _ _ 13 _ ziT z6n (by kernel_rfl)
theorem ziV:RUN (SCH z04) (STOF (z07 1)) 15=⟨3359062569,2580340481,987827534,2199493052,302863753,313126024,2842306057,2790385501⟩:=z02 _ _ _ _ 14 _ ziU z4o (by kernel_rfl)
theorem ziW:RUN (SCH z04) (STOF (z07 1)) 16=⟨3484038914,3359062569,2580340481,987827534,976456098,302863753,313126024,2842306057⟩:=z02 _ _ _ _ 15 _ ziV z4p (by kernel_rfl)
theorem ziX:RUN (SCH z04) (STOF (z07 1)) 17=⟨684559052,3484038914,3359062569,2580340481,4141833578,976456098,302863753,313126024⟩:=z02 _ _ _ _ 16 _ ziW z4q (by kernel_rfl)
theorem ziY:RUN (SCH z04) (STOF (z07 1)) 18=⟨3504185370,684559052,3484038914,3359062569,931278999,4141833578,976456098,302863753⟩:=z02 _ _ _ _ 17 _ ziX z4r (by kernel_rfl)
theorem ziZ:RUN (SCH z04) (STOF (z07 1)) 19=⟨4223671300,3504185370,684559052,3484038914,952643195,931278999,4141833578,976456098⟩:=z02 _ _ _ _ 18 _ ziY z4s (by kernel_rfl)
theorem zj0:RUN (SCH z04) (STOF (z07 1)) 20=⟨3554670433,4223671300,3504185370,684559052,3423918953,952643195,931278999,4141833578⟩:=z02 _ _ _ _ 19 _ ziZ z4t (by kernel_rfl)
theorem zj1:RUN (SCH z04) (STOF (z07 1)) 21=⟨294313302,3554670433,4223671300,3504185370,3059077050,3423918953,952643195,931278999⟩:=z02 _ _ _ _ 20 _ zj0 z4u (by kernel_rfl)
theorem zj2:RUN (SCH z04) (STOF (z07 1)) 22=⟨1626480143,294313302,3554670433,4223671300,408780192,3059077050,3423918953,952643195⟩:=z02 _ _ _ _ 21 _ zj1 z4v (by kernel_rfl)
theorem zj3:RUN (SCH z04) (STOF (z07 1)) 23=⟨1740554561,1626480143,294313302,3554670433,828653678,408780192,3059077050,3423918953⟩:=z02 _ _ _ _ 22 _ zj2 z4w (by kernel_rfl)
theorem zj4:RUN (SCH z04) (STOF (z07 1)) 24=⟨3802695057,1740554561,1626480143,294313302,2884376435,828653678,408780192,3059077050⟩:=z02 _ _ _ _ 23 _ zj3 z4x (by kernel_rfl)
theorem zj5:RUN (SCH z04) (STOF (z07 1)) 25=⟨794052339,3802695057,1740554561,1626480143,3891342238,2884376435,828653678,408780192⟩:=z02 _ _ _ _ 24 _ zj4 z4y (by kernel_rfl)
theorem zj6:RUN (SCH z04) (STOF (z07 1)) 26=⟨3088573399,794052339,3802695057,1740554561,66425970,3891342238,2884376435,828653678⟩:=z02 _ _ _ _ 25 _ zj5 z4z (by kernel_rfl)
theorem zj7:RUN (SCH z04) (STOF (z07 1)) 27=⟨3312452174,3088573399,794052339,3802695057,3554841874,66425970,3891342238,2884376435⟩:=z02 _ _ _ _ 26 _ zj6 z4A (by kernel_rfl)
theorem zj8:RUN (SCH z04) (STOF (z07 1)) 28=⟨2353810047,3312452174,3088573399,794052339,1585282355,3554841874,66425970,3891342238⟩:=z02 _ _ _ _ 27 _ zj7 z4B (by kernel_rfl)
theorem zj9:RUN (SCH z04) (STOF (z07 1)) 29=⟨3112998958,2353810047,3312452174,3088573399,3670412790,1585282355,3554841874,66425970⟩:=z02 _ _ _ _ 28 _ zj8 z4C (by kernel_rfl)
theorem zja:RUN (SCH z04) (STOF (z07 1)) 30=⟨2898674914,3112998958,2353810047,3312452174,2048642498,3670412790,1585282355,3554841874⟩:=z02 _ _ _ _ 29 _ zj9 z4D (by kernel_rfl)
theorem zjb:RUN (SCH z04) (STOF (z07 1)) 31=⟨548049599,2898674914,3112998958,2353810047,2752958182,2048642498,3670412790,1585282355⟩:=z02 _ _ _ _ 30 _ zja z4E (by kernel_rfl)
theorem zjc:RUN (SCH z04) (STOF (z07 1)) 32=⟨1100797075,548049599,2898674914,3112998958,767635691,2752958182,2048642498,3670412790⟩:=z02 _ _ _ _ 31 _ zjb z4F (by kernel_rfl)
theorem zjd:RUN (SCH z04) (STOF (z07 1)) 33=⟨1126453158,1100797075,548049599,2898674914,3564281437,767635691,2752958182,2048642498⟩:=z02 _ _ _ _ 32 _ zjc z4G (by kernel_rfl)
theorem zje:RUN (SCH z04) (STOF (z07 1)) 34=⟨1181172691,1126453158,1100797075,548049599,884678199,3564281437,767635691,2752958182⟩:=z02 _ _ _ _ 33 _ zjd z4H (by kernel_rfl)
theorem zjf:RUN (SCH z04) (STOF (z07 1)) 35=⟨2129609914,1181172691,1126453158,1100797075,174645519,884678199,3564281437,767635691⟩:=z02 _ _ _ _ 34 _ zje z4I (by kernel_rfl)
theorem zjg:RUN (SCH z04) (STOF (z07 1)) 36=⟨4259818464,2129609914,1181172691,1126453158,4053952786,174645519,884678199,3564281437⟩:=z02 _ _ _ _ 35 _ zjf z4J (by kernel_rfl)
theorem zjh:RUN (SCH z04) (STOF (z07 1)) 37=⟨2111970979,4259818464,2129609914,1181172691,1129161765,4053952786,174645519,884678199⟩:=z02 _ _ _ _ 36 _ zjg z4K (by kernel_rfl)
theorem zji:RUN (SCH z04) (STOF (z07 1)) 38=⟨587894076,2111970979,4259818464,2129609914,1232133406,1129161765,4053952786,174645519⟩:=z02 _ _ _ _ 37 _ zjh z4L (by kernel_rfl)
theorem zjj:RUN (SCH z04) (STOF (z07 1)) 39=⟨1982008953,587894076,2111970979,4259818464,739801084,1232133406,1129161765,4053952786⟩:=z02 _ _ _ _ 38 _ zji z4M (by kernel_rfl)
theorem zjk:RUN (SCH z04) (STOF (z07 1)) 40=⟨2827025094,1982008953,587894076,2111970979,2362179855,739801084,1232133406,1129161765⟩:=z02 _ _ _ _ 39 _ zjj z4N (by kernel_rfl)
theorem zjl:RUN (SCH z04) (STOF (z07 1)) 41=⟨933230881,2827025094,1982008953,587894076,327231796,2362179855,739801084,1232133406⟩:=z02 _ _ _ _ 40 _ zjk z4O (by kernel_rfl)
theorem zjm:RUN (SCH z04) (STOF (z07 1)) 42=⟨872403652,933230881,2827025094,1982008953,628858678,327231796,2362179855,739801084⟩:=z02 _ _ _ _ 41 _ zjl z4P (by kernel_rfl)
theorem zjn:RUN (SCH z04) (STOF (z07 1)) 43=⟨76004226,872403652,933230881,2827025094,3782562743,628858678,327231796,2362179855⟩:=z02 _ _ _ _ 42 _ zjm z4Q (by kernel_rfl)
theorem zjo:RUN (SCH z04) (STOF (z07 1)) 44=⟨1308597455,76004226,872403652,933230881,2063653190,3782562743,628858678,327231796⟩:=z02 _ _ _ _ 43 _ zjn z4R (by kernel_rfl)
theorem zjp:RUN (SCH z04) (STOF (z07 1)) 45=⟨3720016941,1308597455,76004226,872403652,1139055760,2063653190,3782562743,628858678⟩:=z02 _ _ _ _ 44 _ zjo z4S (by kernel_rfl)
theorem zjq:RUN (SCH z04) (STOF (z07 1)) 46=⟨2922337936,3720016941,1308597455,76004226,1453229339,1139055760,2063653190,3782562743⟩:=z02 _ _ _ _ 45 _ zjp z4T (by kernel_rfl)
theorem zjr:RUN (SCH z04) (STOF (z07 1)) 47=⟨3356876198,2922337936,3720016941,1308597455,3699957301,1453229339,1139055760,2063653190⟩:=z02 _ _ _ _ 46 _ zjq z4U (by kernel_rfl)
theorem zjs:RUN (SCH z04) (STOF (z07 1)) 48=⟨1391032627,3356876198,2922337936,3720016941,3429078135,3699957301,1453229339,1139055760⟩:=z02 _ _ _ _ 47 _ zjr z4V (by kernel_rfl)
theorem zjt:RUN (SCH z04) (STOF (z07 1)) 49=⟨3940047381,1391032627,3356876198,2922337936,1168239684,3429078135,3699957301,1453229339⟩:=z02 _ _ _ _ 48 _ zjs z6o (by kernel_rfl)
theorem zju:RUN (SCH z04) (STOF (z07 1)) 50=⟨1216256848,3940047381,1391032627,3356876198,1617133757,1168239684,3429078135,3699957301⟩:=z02 _ _ _ _ 49 _ zjt z8C (by kernel_rfl)
theorem zjv:RUN (SCH z04) (STOF (z07 1)) 51=⟨403218818,1216256848,3940047381,1391032627,1647673366,1617133757,1168239684,3429078135⟩:=z02 _ _ _ _ 50 _ zju z8D (by kernel_rfl)
theorem zjw:RUN (SCH z04) (STOF (z07 1)) 52=⟨1040258564,403218818,1216256848,3940047381,2684163042,1647673366,1617133757,1168239684⟩:=z02 _ _ _ _ 51 _ zjv z8E (by kernel_rfl)
theorem zjx:RUN (SCH z04) (STOF (z07 1)) 53=⟨1316678956,1040258564,403218818,1216256848,1699811024,2684163042,1647673366,1617133757⟩:=z02 _ _ _ _ 52 _ zjw z8F (by kernel_rfl)
theorem zjy:RUN (SCH z04) (STOF (z07 1)) 54=⟨3546558560,1316678956,1040258564,403218818,1821486343,1699811024,2684163042,1647673366⟩:=z02 _ _ _ _ 53 _ zjx z8G (by kernel_rfl)
theorem zjz:RUN (SCH z04) (STOF (z07 1)) 55=⟨3633507066,3546558560,1316678956,1040258564,1797080036,1821486343,1699811024,2684163042⟩:=z02 _ _ _ _ 54 _ zjy z8H (by kernel_rfl)
theorem zjA:RUN (SCH z04) (STOF (z07 1)) 56=⟨1956966331,3633507066,3546558560,1316678956,769230860,1797080036,1821486343,1699811024⟩:=z02 _ _ _ _ 55 _ zjz z8I (by kernel_rfl)
theorem zjB:RUN (SCH z04) (STOF (z07 1)) 57=⟨4279539329,1956966331,3633507066,3546558560,1235101080,769230860,1797080036,1821486343⟩:=z02 _ _ _ _ 56 _ zjA z8J (by kernel_rfl)
theorem zjC:RUN (SCH z04) (STOF (z07 1)) 58=⟨4109544537,4279539329,1956966331,3633507066,842076934,1235101080,769230860,1797080036⟩:=z02 _ _ _ _ 57 _ zjB zcr (by kernel_rfl)
theorem zjD:RUN (SCH z04) (STOF (z07 1)) 59=⟨3341763404,4109544537,4279539329,1956966331,3586856029,842076934,1235101080,769230860⟩:=z02 _ _ _ _ 58 _ zjC zcs (by kernel_rfl)
theorem zjE:RUN (SCH z04) (STOF (z07 1)) 60=⟨3036765497,3341763404,4109544537,4279539329,2614029302,3586856029,842076934,1235101080⟩:=z02 _ _ _ _ 59 _ zjD zct (by kernel_rfl)
theorem zjF:RUN (SCH z04) (STOF (z07 1)) 61=⟨1236734871,3036765497,3341763404,4109544537,3517924143,2614029302,3586856029,842076934⟩:=z02 _ _ _ _ 60 _ zjE zcu (by kernel_rfl)
theorem zjG:RUN (SCH z04) (STOF (z07 1)) 62=⟨994181139,1236734871,3036765497,3341763404,3631449300,3517924143,2614029302,3586856029⟩:=z02 _ _ _ _ 61 _ zjF zcv (by kernel_rfl)
theorem zjH:RUN (SCH z04) (STOF (z07 1)) 63=⟨3269671956,994181139,1236734871,3036765497,2328254292,3631449300,3517924143,2614029302⟩:=z02 _ _ _ _ 62 _ zjG ziO (by kernel_rfl)
theorem zjI:RUN (SCH z04) (STOF (z07 1)) 64=⟨3779197602,3269671956,994181139,1236734871,3983654061,2328254292,3631449300,3517924143⟩:=z02 _ _ _ _ 63 _ zjH ziP (by kernel_rfl)
theorem zfq:([118,4,1] ++ END 3).length / 64=1:=by rw [List.length_append,z5h];kernel_rfl
theorem zcw (d:Int):z0b d [118,4,1]=COMP d (z07 d) z04:=by
  show z0v d ([118,4,1] ++ END 3) (([118,4,1] ++ END 3).length / 64)=_
  rw [zfq]
  rfl
theorem zkB:OUTW (z07 1) z04 0=1262615202:=by
  rw [OUTW,zjI]
  kernel_rfl
theorem zgT:z0b 1 [118,4,1] 0=75:=by
  have h:=zkB
  rw [zcw,COMP]
  generalize OUTW (z07 1) z04=X at *
  rw [z0G,if_pos (by decide),z0i]
  show X 0 / 2 ^ 24 % 256=75
  rw [h]
theorem zfr:((List.range 32).all fun i=>z0b 1 [118,4,1] i == z0b 1 [0] i)=true:=by
  rw [List.all_eq_true]
  intro i _
  cases i with
  | zero=>rw [zgS,zgT];rfl
  | succ i=>
    rw [zcq,zcw,COMP,COMP,z0G,z0G,if_neg (by have:WID 1=1:=rfl;omega),if_neg (by have:WID 1=1:=rfl;omega)]
    rfl
end Go.Proofs.YtbmjoiiagldklaaGreatDoor.HX
