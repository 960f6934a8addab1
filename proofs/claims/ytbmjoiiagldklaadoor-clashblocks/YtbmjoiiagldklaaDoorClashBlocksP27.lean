/- Texts of ClashBlocks, one behind the other: ClashBytes, ClashAbc. -/
import Derived.Test.YtbmjoiiagldklaaDoorClashBlocksP11
import Derived.Test.YtbmjoiiagldklaaDoorClashBlocksP12
import Derived.Test.YtbmjoiiagldklaaDoorClashBlocksP24
import Derived.Test.YtbmjoiiagldklaaDoorClashBlocksP26
namespace Go.Proofs.YtbmjoiiagldklaaDoor
open Go.RowKit
set_option maxRecDepth 100000
set_option maxHeartbeats 1000000 in
theorem z8o (a:Option Addr) (n c:Nat) (hn:n≤1000000) (hc:a=none→c=0) (l:List Int) (w:World) (hB:Bytes w a n l):Calls Tryd.prog 13 #[.slice a n c] w (z9g w n l):=by
  have HA:Aside (n≤1000000∧(a=none→c=0)∧Bytes w a n l):=⟨hn,hc,hB⟩
  clear hn hc hB
  go_enter Tryd.func13,Tryd.ntmps13
  go_wp2_with (at_builtin;first
    | (refine z5B _ rfl (.tmp 3) (.tmp 4) rfl w.heap.size (.slice (some ⟨w.heap.size,0,none⟩) 0 0) 0 [] rfl (z7W w _ (Nat.le_refl _)) a n c l rfl (HA.out.2.2.below ((Below.refl _ _).alloc (Nat.le_refl _) _)) HA.out.2.1 n l (Nat.zero_add n) rfl (by have:=HA.out.1;omega) (by simp) ?_;intro a1 c1 w1 hown1 hgrow1
       have R1:Aside (w1.ownsRow w.heap.size 5 1 (.slice a1 n c1) n (z00 l)∧Below w.heap.size w w1):=⟨hown1,((Below.refl _ w).alloc (Nat.le_refl _) _).grown hgrow1 (by simp) (fun k e=>by cases e;exact Nat.le_refl _)⟩
       clear hown1 hgrow1)
    | (refine z3t _ rfl (.tmp 5) (.tmp 6) rfl w.heap.size (.slice a1 n c1) n l rfl (R1.out.1.alloc _) w1.heap.size 0 1 1 [171] rfl (zd4 w1 171 (by decide) (by decide)) (by decide) (by have:=HA.out.1;omega) (by have:=R1.out.2.size;simp;omega) ?_;intro g2 c2 w2 hown2 hgrow2 hg2
       obtain ⟨f1,f2,f3⟩:=zdv hown2 HA.out.2.2.1
       have hcap:(n:Int)≤(c2:Int):=by omega
       have R2:Aside (w2.ownsRow w.heap.size 5 1 (.slice (some ⟨g2,0,none⟩) n c2) n (z00 l)∧n+1≤c2∧w2.cell? ⟨g2,n,none⟩=some (.int .u8 171)∧g2<w2.heap.size∧Below w.heap.size w w2):=⟨f1,f2,f3,hg2,(R1.out.2.alloc R1.out.2.size _).grown hgrow2 (by have:=R1.out.2.size;simp;omega) (fun k e=>(R1.out.1.lt k e).1)⟩
       clear hown2 hgrow2 hg2 f1 f2 f3))
  go_ret
  exact ⟨_,_,rfl,R2.out⟩
theorem z3c {b:List Int} (hr:∀ x∈b,0≤x∧x≤255) (h:(DEC b).1=0):(DEC b).2.2.2.2.length=32*(DEC b).2.2.2.1∧∀ z∈(DEC b).2.2.2.2,0≤z∧z≤255:=by
  obtain ⟨E,S,I,N,t,hD⟩:∃ E S I N t,DEC b=(E,S,I,N,t):=⟨_,_,_,_,_,rfl⟩
  rw [hD] at h ⊢
  dsimp only at h ⊢
  subst h
  obtain ⟨_,_,_,_,_,h6,_,h8⟩:=z7x hr hD
  exact ⟨h6,h8⟩
end Go.Proofs.YtbmjoiiagldklaaDoor

namespace Go.Proofs.YtbmjoiiagldklaaDoor.HX
open Go.RowKit
def z02:Nat→Nat:=BLK ([0] ++ END 1) 0
theorem zdZ:SCH z02 0=8388608:=(z0i z02 0 (by decide)).trans (by kernel_rfl)
theorem z9C:SCH z02 1=0:=(z0i z02 1 (by decide)).trans (by kernel_rfl)
theorem z9D:SCH z02 2=0:=(z0i z02 2 (by decide)).trans (by kernel_rfl)
theorem z9E:SCH z02 3=0:=(z0i z02 3 (by decide)).trans (by kernel_rfl)
theorem z9F:SCH z02 4=0:=(z0i z02 4 (by decide)).trans (by kernel_rfl)
theorem z9G:SCH z02 5=0:=(z0i z02 5 (by decide)).trans (by kernel_rfl)
theorem z9H:SCH z02 6=0:=(z0i z02 6 (by decide)).trans (by kernel_rfl)
theorem z9I:SCH z02 7=0:=(z0i z02 7 (by decide)).trans (by kernel_rfl)
theorem z9J:SCH z02 8=0:=(z0i z02 8 (by decide)).trans (by kernel_rfl)
theorem z77:SCH z02 9=0:=(z0i z02 9 (by decide)).trans (by kernel_rfl)
theorem z5G:SCH z02 10=0:=(z0i z02 10 (by decide)).trans (by kernel_rfl)
theorem z5H:SCH z02 11=0:=(z0i z02 11 (by decide)).trans (by kernel_rfl)
theorem z5I:SCH z02 12=0:=(z0i z02 12 (by decide)).trans (by kernel_rfl)
theorem z5J:SCH z02 13=0:=(z0i z02 13 (by decide)).trans (by kernel_rfl)
theorem z3z:SCH z02 14=0:=(z0i z02 14 (by decide)).trans (by kernel_rfl)
theorem z3A:SCH z02 15=8:=(z0i z02 15 (by decide)).trans (by kernel_rfl)
theorem z3B:SCH z02 16=8388608:=z04 z02 0 _ _ _ _ _ (by decide) z3z z77 z9C zdZ (by kernel_rfl)
theorem z3C:SCH z02 17=327680:=z04 z02 1 _ _ _ _ _ (by decide) z3A z5G z9D z9C (by kernel_rfl)
theorem z3D:SCH z02 18=8272:=z04 z02 2 _ _ _ _ _ (by decide) z3B z5H z9E z9D (by kernel_rfl)
theorem z3E:SCH z02 19=536871234:=z04 z02 3 _ _ _ _ _ (by decide) z3C z5I z9F z9E (by kernel_rfl)
theorem z3F:SCH z02 20=337772552:=z04 z02 4 _ _ _ _ _ (by decide) z3D z5J z9G z9F (by kernel_rfl)
theorem z3G:SCH z02 21=8475648:=z04 z02 5 _ _ _ _ _ (by decide) z3E z3z z9H z9G (by kernel_rfl)
theorem z3H:SCH z02 22=1073741853:=z04 z02 6 _ _ _ _ _ (by decide) z3F z3A z9I z9H (by kernel_rfl)
theorem z3I:SCH z02 23=2164269061:=z04 z02 7 _ _ _ _ _ (by decide) z3G z3B z9J z9I (by kernel_rfl)
theorem z3J:SCH z02 24=2230272:=z04 z02 8 _ _ _ _ _ (by decide) z3H z3C z77 z9J (by kernel_rfl)
theorem z3K:SCH z02 25=337793272:=z04 z02 9 _ _ _ _ _ (by decide) z3I z3D z5G z77 (by kernel_rfl)
theorem z3L:SCH z02 26=1694501337:=z04 z02 10 _ _ _ _ _ (by decide) z3J z3E z5H z5G (by kernel_rfl)
theorem z3M:SCH z02 27=1988624393:=z04 z02 11 _ _ _ _ _ (by decide) z3K z3F z5I z5H (by kernel_rfl)
theorem z3N:SCH z02 28=105919010:=z04 z02 12 _ _ _ _ _ (by decide) z3L z3G z5J z5I (by kernel_rfl)
theorem z3O:SCH z02 29=1075328946:=z04 z02 13 _ _ _ _ _ (by decide) z3M z3H z3z z5J (by kernel_rfl)
theorem z3P:SCH z02 30=2958489588:=z04 z02 14 _ _ _ _ _ (by decide) z3N z3I z3A z3z (by kernel_rfl)
theorem z3Q:SCH z02 31=494040618:=z04 z02 15 _ _ _ _ _ (by decide) z3O z3J z3B z3A (by kernel_rfl)
theorem z3R:SCH z02 32=4190885525:=z04 z02 16 _ _ _ _ _ (by decide) z3P z3K z3C z3B (by kernel_rfl)
theorem z3S:SCH z02 33=2196774829:=z04 z02 17 _ _ _ _ _ (by decide) z3Q z3L z3D z3C (by kernel_rfl)
theorem z3T:SCH z02 34=2285820332:=z04 z02 18 _ _ _ _ _ (by decide) z3R z3M z3E z3D (by kernel_rfl)
theorem z3U:SCH z02 35=3305243022:=z04 z02 19 _ _ _ _ _ (by decide) z3S z3N z3F z3E (by kernel_rfl)
theorem z3V:SCH z02 36=1628256880:=z04 z02 20 _ _ _ _ _ (by decide) z3T z3O z3G z3F (by kernel_rfl)
theorem z3W:SCH z02 37=606574232:=z04 z02 21 _ _ _ _ _ (by decide) z3U z3P z3H z3G (by kernel_rfl)
theorem z3X:SCH z02 38=2869189168:=z04 z02 22 _ _ _ _ _ (by decide) z3V z3Q z3I z3H (by kernel_rfl)
theorem z3Y:SCH z02 39=912661284:=z04 z02 23 _ _ _ _ _ (by decide) z3W z3R z3J z3I (by kernel_rfl)
theorem z3Z:SCH z02 40=2417538391:=z04 z02 24 _ _ _ _ _ (by decide) z3X z3S z3K z3J (by kernel_rfl)
theorem z40:SCH z02 41=662210437:=z04 z02 25 _ _ _ _ _ (by decide) z3Y z3T z3L z3K (by kernel_rfl)
theorem z41:SCH z02 42=2456130860:=z04 z02 26 _ _ _ _ _ (by decide) z3Z z3U z3M z3L (by kernel_rfl)
theorem z42:SCH z02 43=1931430815:=z04 z02 27 _ _ _ _ _ (by decide) z40 z3V z3N z3M (by kernel_rfl)
theorem z43:SCH z02 44=67023220:=z04 z02 28 _ _ _ _ _ (by decide) z41 z3W z3O z3N (by kernel_rfl)
theorem z44:SCH z02 45=2052358436:=z04 z02 29 _ _ _ _ _ (by decide) z42 z3X z3P z3O (by kernel_rfl)
theorem z45:SCH z02 46=1064287929:=z04 z02 30 _ _ _ _ _ (by decide) z43 z3Y z3Q z3P (by kernel_rfl)
theorem z46:SCH z02 47=1067640270:=z04 z02 31 _ _ _ _ _ (by decide) z44 z3Z z3R z3Q (by kernel_rfl)
theorem z5K:SCH z02 48=2524529989:=z04 z02 32 _ _ _ _ _ (by decide) z45 z40 z3S z3R (by kernel_rfl)
theorem z7z:SCH z02 49=1109617150:=z04 z02 33 _ _ _ _ _ (by decide) z46 z41 z3T z3S (by kernel_rfl)
theorem z7A:SCH z02 50=181928543:=z04 z02 34 _ _ _ _ _ (by decide) z5K z42 z3U z3T (by kernel_rfl)
theorem z7B:SCH z02 51=1162918410:=z04 z02 35 _ _ _ _ _ (by decide) z7z z43 z3V z3U (by kernel_rfl)
theorem z7C:SCH z02 52=2922595010:=z04 z02 36 _ _ _ _ _ (by decide) z7A z44 z3W z3V (by kernel_rfl)
theorem z7D:SCH z02 53=279395504:=z04 z02 37 _ _ _ _ _ (by decide) z7B z45 z3X z3W (by kernel_rfl)
theorem z7E:SCH z02 54=2082656472:=z04 z02 38 _ _ _ _ _ (by decide) z7C z46 z3Y z3X (by kernel_rfl)
theorem z7F:SCH z02 55=3609216951:=z04 z02 39 _ _ _ _ _ (by decide) z7D z5K z3Z z3Y (by kernel_rfl)
theorem z7G:SCH z02 56=870645911:=z04 z02 40 _ _ _ _ _ (by decide) z7E z7z z40 z3Z (by kernel_rfl)
theorem zb7:SCH z02 57=2341257311:=z04 z02 41 _ _ _ _ _ (by decide) z7F z7A z41 z40 (by kernel_rfl)
theorem zb8:SCH z02 58=3664634151:=z04 z02 42 _ _ _ _ _ (by decide) z7G z7B z42 z41 (by kernel_rfl)
theorem zb9:SCH z02 59=1568575899:=z04 z02 43 _ _ _ _ _ (by decide) zb7 z7C z43 z42 (by kernel_rfl)
theorem zba:SCH z02 60=3374228186:=z04 z02 44 _ _ _ _ _ (by decide) zb8 z7D z44 z43 (by kernel_rfl)
theorem zbb:SCH z02 61=731796513:=z04 z02 45 _ _ _ _ _ (by decide) zb9 z7E z45 z44 (by kernel_rfl)
theorem zgo:SCH z02 62=3196917518:=z04 z02 46 _ _ _ _ _ (by decide) zba z7F z46 z45 (by kernel_rfl)
theorem zgp:SCH z02 63=483982666:=z04 z02 47 _ _ _ _ _ (by decide) zbb z7G z5K z46 (by kernel_rfl)
theorem ziN:RUN (SCH z02) (STOF (z05 1)) 0=⟨1778384896,0,0,0,0,0,0,0⟩:=by kernel_rfl
theorem ziO:RUN (SCH z02) (STOF (z05 1)) 1=⟨1569554752,1778384896,0,0,1124741016,0,0,0⟩:=z01 _ _ _ _ 0 _ ziN zdZ (by kernel_rfl)
theorem ziP:RUN (SCH z02) (STOF (z05 1)) 2=⟨4222572469,1569554752,1778384896,0,2286602859,1124741016,0,0⟩:=z01 _ _ _ _ 1 _ ziO z9C (by kernel_rfl)
theorem ziQ:RUN (SCH z02) (STOF (z05 1)) 3=⟨1973943812,4222572469,1569554752,1778384896,2080382347,2286602859,1124741016,0⟩:=z01 _ _ _ _ 2 _ ziP z9D (by kernel_rfl)
theorem ziR:RUN (SCH z02) (STOF (z05 1)) 4=⟨2176017911,1973943812,4222572469,1569554752,4216408971,2080382347,2286602859,1124741016⟩:=z01 _ _ _ _ 3 _ ziQ z9E (by kernel_rfl)
theorem ziS:RUN (SCH z02) (STOF (z05 1)) 5=⟨3734104429,2176017911,1973943812,4222572469,1211164696,4216408971,2080382347,2286602859⟩:=z01 _ _ _ _ 4 _ ziR z9F (by kernel_rfl)
theorem ziT:RUN (SCH z02) (STOF (z05 1)) 6=⟨701311635,3734104429,2176017911,1973943812,3562625845,1211164696,4216408971,2080382347⟩:=z01 _ _ _ _ 5 _ ziS z9G (by kernel_rfl)
theorem ziU:RUN (SCH z02) (STOF (z05 1)) 7=⟨1248333783,701311635,3734104429,2176017911,2352896890,3562625845,1211164696,4216408971⟩:=z01 _ _ _ _ 6 _ ziT z9H (by kernel_rfl)
theorem ziV:RUN (SCH z02) (STOF (z05 1)) 8=⟨1539023587,1248333783,701311635,3734104429,2256981863,2352896890,3562625845,1211164696⟩:=z01 _ _ _ _ 7 _ ziU z9I (by kernel_rfl)
theorem ziW:RUN (SCH z02) (STOF (z05 1)) 9=⟨2710456615,1539023587,1248333783,701311635,79122358,2256981863,2352896890,3562625845⟩:=z01 _ _ _ _ 8 _ ziV z9J (by kernel_rfl)
theorem zgq:RUN (SCH z02) (STOF (z05 1)) 10=⟨3439637277,2710456615,1539023587,1248333783,313381132,79122358,2256981863,2352896890⟩:=z01 _ _ _ _ 9 _ ziW z77 (by kernel_rfl)
theorem zgr:RUN (SCH z02) (STOF (z05 1)) 11=⟨1059679379,3439637277,2710456615,1539023587,3332351341,313381132,79122358,2256981863⟩:=z01 _ _ _ _ 10 _ zgq z5G (by kernel_rfl)
theorem zgs:RUN (SCH z02) (STOF (z05 1)) 12=⟨4020210676,1059679379,3439637277,2710456615,2406274861,3332351341,313381132,79122358⟩:=z01 _ _ _ _ 11 _ zgr z5H (by kernel_rfl)
theorem zgt:RUN (SCH z02) (STOF (z05 1)) 13=⟨4251448236,4020210676,1059679379,3439637277,2507752319,2406274861,3332351341,313381132⟩:=z01 _ _ _ _ 12 _ zgs z5I (by kernel_rfl)
theorem zgu:RUN (SCH z02) (STOF (z05 1)) 14=⟨3315789819,4251448236,4020210676,1059679379,1434915651,2507752319,2406274861,3332351341⟩:=z01 _ _ _ _ 13 _ zgt z5J (by kernel_rfl)
theorem zgv:RUN (SCH z02) (STOF (z05 1)) 15=⟨2605442691,3315789819,4251448236,4020210676,3888377115,1434915651,2507752319,2406274861⟩:=z01 _ _ _ _ 14 _ zgu z3z (by kernel_rfl)
theorem zgw:RUN (SCH z02) (STOF (z05 1)) 16=⟨2928761735,2605442691,3315789819,4251448236,3279475262,3888377115,1434915651,2507752319⟩:=z01 _ _ _ _ 15 _ zgv z3A (by kernel_rfl)
theorem zgx:RUN (SCH z02) (STOF (z05 1)) 17=⟨1435774498,2928761735,2605442691,3315789819,1350628730,3279475262,3888377115,1434915651⟩:=z01 _ _ _ _ 16 _ zgw z3B (by kernel_rfl)
theorem zgy:RUN (SCH z02) (STOF (z05 1)) 18=⟨2271313641,1435774498,2928761735,2605442691,4171485666,1350628730,3279475262,3888377115⟩:=z01 _ _ _ _ 17 _ zgx z3C (by kernel_rfl)
theorem zgz:RUN (SCH z02) (STOF (z05 1)) 19=⟨3434424895,2271313641,1435774498,2928761735,3439316851,4171485666,1350628730,3279475262⟩:=z01 _ _ _ _ 18 _ zgy z3D (by kernel_rfl)
theorem zgA:RUN (SCH z02) (STOF (z05 1)) 20=⟨2064137751,3434424895,2271313641,1435774498,3983055711,3439316851,4171485666,1350628730⟩:=z01 _ _ _ _ 19 _ zgz z3E (by kernel_rfl)
theorem zgB:RUN (SCH z02) (STOF (z05 1)) 21=⟨3978319571,2064137751,3434424895,2271313641,1695661198,3983055711,3439316851,4171485666⟩:=z01 _ _ _ _ 20 _ zgA z3F (by kernel_rfl)
theorem zgC:RUN (SCH z02) (STOF (z05 1)) 22=⟨196844315,3978319571,2064137751,3434424895,3648039147,1695661198,3983055711,3439316851⟩:=z01 _ _ _ _ 21 _ zgB z3G (by kernel_rfl)
theorem zgD:RUN (SCH z02) (STOF (z05 1)) 23=⟨949404587,196844315,3978319571,2064137751,2781411491,3648039147,1695661198,3983055711⟩:=z01 _ _ _ _ 22 _ zgC z3H (by kernel_rfl)
theorem zgE:RUN (SCH z02) (STOF (z05 1)) 24=⟨3615058037,949404587,196844315,3978319571,2690382387,2781411491,3648039147,1695661198⟩:=z01 _ _ _ _ 23 _ zgD z3I (by kernel_rfl)
theorem zgF:RUN (SCH z02) (STOF (z05 1)) 25=⟨2339409368,3615058037,949404587,196844315,2298733285,2690382387,2781411491,3648039147⟩:=z01 _ _ _ _ 24 _ zgE z3J (by kernel_rfl)
theorem zgG:RUN (SCH z02) (STOF (z05 1)) 26=⟨2945776766,2339409368,3615058037,949404587,2444276417,2298733285,2690382387,2781411491⟩:=z01 _ _ _ _ 25 _ zgF z3K (by kernel_rfl)
theorem zgH:RUN (SCH z02) (STOF (z05 1)) 27=⟨2375569102,2945776766,2339409368,3615058037,450653431,2444276417,2298733285,2690382387⟩:=z01 _ _ _ _ 26 _ zgG z3L (by kernel_rfl)
theorem zgI:RUN (SCH z02) (STOF (z05 1)) 28=⟨3628695708,2375569102,2945776766,2339409368,1812518636,450653431,2444276417,2298733285⟩:=z01 _ _ _ _ 27 _ zgH z3M (by kernel_rfl)
theorem zgJ:RUN (SCH z02) (STOF (z05 1)) 29=⟨4208130110,3628695708,2375569102,2945776766,3820218414,1812518636,450653431,2444276417⟩:=z01 _ _ _ _ 28 _ zgI z3N (by kernel_rfl)
theorem zgK:RUN (SCH z02) (STOF (z05 1)) 30=⟨2497727348,4208130110,3628695708,2375569102,922282977,3820218414,1812518636,450653431⟩:=z01 _ _ _ _ 29 _ zgJ z3O (by kernel_rfl)
theorem zgL:RUN (SCH z02) (STOF (z05 1)) 31=⟨2578038873,2497727348,4208130110,3628695708,1322245983,922282977,3820218414,1812518636⟩:=z01 _ _ _ _ 30 _ zgK z3P (by kernel_rfl)
theorem zgM:RUN (SCH z02) (STOF (z05 1)) 32=⟨2472758969,2578038873,2497727348,4208130110,254028699,1322245983,922282977,3820218414⟩:=z01 _ _ _ _ 31 _ zgL z3Q (by kernel_rfl)
theorem zgN:RUN (SCH z02) (STOF (z05 1)) 33=⟨4285286369,2472758969,2578038873,2497727348,3425650349,254028699,1322245983,922282977⟩:=z01 _ _ _ _ 32 _ zgM z3R (by kernel_rfl)
theorem zgO:RUN (SCH z02) (STOF (z05 1)) 34=⟨4182240021,4285286369,2472758969,2578038873,15958569,3425650349,254028699,1322245983⟩:=z01 _ _ _ _ 33 _ zgN z3S (by kernel_rfl)
theorem zgP:RUN (SCH z02) (STOF (z05 1)) 35=⟨16699018,4182240021,4285286369,2472758969,1710151699,15958569,3425650349,254028699⟩:=z01 _ _ _ _ 34 _ zgO z3T (by kernel_rfl)
theorem zgQ:RUN (SCH z02) (STOF (z05 1)) 36=⟨1906129866,16699018,4182240021,4285286369,4231798443,1710151699,15958569,3425650349⟩:=z01 _ _ _ _ 35 _ zgP z3U (by kernel_rfl)
theorem zgR:RUN (SCH z02) (STOF (z05 1)) 37=⟨74614242,1906129866,16699018,4182240021,1529017948,4231798443,1710151699,15958569⟩:=z01 _ _ _ _ 36 _ zgQ z3V (by kernel_rfl)
theorem zgS:RUN (SCH z02) (STOF (z05 1)) 38=⟨2837945848,74614242,1906129866,16699018,1029041734,1529017948,4231798443,1710151699⟩:=z01 _ _ _ _ 37 _ zgR z3W (by kernel_rfl)
theorem zgT:RUN (SCH z02) (STOF (z05 1)) 39=⟨1675082568,2837945848,74614242,1906129866,3886259970,1029041734,1529017948,4231798443⟩:=z01 _ _ _ _ 38 _ zgS z3X (by kernel_rfl)
theorem zgU:RUN (SCH z02) (STOF (z05 1)) 40=⟨4193763318,1675082568,2837945848,74614242,2915142648,3886259970,1029041734,1529017948⟩:=z01 _ _ _ _ 39 _ zgT z3Y (by kernel_rfl)
theorem zgV:RUN (SCH z02) (STOF (z05 1)) 41=⟨1244037441,4193763318,1675082568,2837945848,3312143236,2915142648,3886259970,1029041734⟩:=z01 _ _ _ _ 40 _ zgU z3Z (by kernel_rfl)
theorem zgW:RUN (SCH z02) (STOF (z05 1)) 42=⟨3109154121,1244037441,4193763318,1675082568,872078261,3312143236,2915142648,3886259970⟩:=z01 _ _ _ _ 41 _ zgV z40 (by kernel_rfl)
theorem zgX:RUN (SCH z02) (STOF (z05 1)) 43=⟨1709743759,3109154121,1244037441,4193763318,2359039326,872078261,3312143236,2915142648⟩:=z01 _ _ _ _ 42 _ zgW z41 (by kernel_rfl)
theorem zgY:RUN (SCH z02) (STOF (z05 1)) 44=⟨3272447000,1709743759,3109154121,1244037441,3291058517,2359039326,872078261,3312143236⟩:=z01 _ _ _ _ 43 _ zgX z42 (by kernel_rfl)
theorem zgZ:RUN (SCH z02) (STOF (z05 1)) 45=⟨1138132233,3272447000,1709743759,3109154121,106843099,3291058517,2359039326,872078261⟩:=z01 _ _ _ _ 44 _ zgY z43 (by kernel_rfl)
theorem zh0:RUN (SCH z02) (STOF (z05 1)) 46=⟨2957313721,1138132233,3272447000,1709743759,52348160,106843099,3291058517,2359039326⟩:=z01 _ _ _ _ 45 _ zgZ z44 (by kernel_rfl)
theorem zh1:RUN (SCH z02) (STOF (z05 1)) 47=⟨3335757086,2957313721,1138132233,3272447000,464556621,52348160,106843099,3291058517⟩:=z01 _ _ _ _ 46 _ zh0 z45 (by kernel_rfl)
theorem zh2:RUN (SCH z02) (STOF (z05 1)) 48=⟨2603131860,3335757086,2957313721,1138132233,2217216019,464556621,52348160,106843099⟩:=z01 _ _ _ _ 47 _ zh1 z46 (by kernel_rfl)
theorem zh3:RUN (SCH z02) (STOF (z05 1)) 49=⟨1060794258,2603131860,3335757086,2957313721,1441646883,2217216019,464556621,52348160⟩:=z01 _ _ _ _ 48 _ zh2 z5K (by kernel_rfl)
theorem zh4:RUN (SCH z02) (STOF (z05 1)) 50=⟨2342988525,1060794258,2603131860,3335757086,2177914693,1441646883,2217216019,464556621⟩:=z01 _ _ _ _ 49 _ zh3 z7z (by kernel_rfl)
theorem zh5:RUN (SCH z02) (STOF (z05 1)) 51=⟨2930670626,2342988525,1060794258,2603131860,824822720,2177914693,1441646883,2217216019⟩:=z01 _ _ _ _ 50 _ zh4 z7A (by kernel_rfl)
theorem zh6:RUN (SCH z02) (STOF (z05 1)) 52=⟨3541169062,2930670626,2342988525,1060794258,3409823767,824822720,2177914693,1441646883⟩:=z01 _ _ _ _ 51 _ zh5 z7B (by kernel_rfl)
theorem zh7:RUN (SCH z02) (STOF (z05 1)) 53=⟨4231826724,3541169062,2930670626,2342988525,1100153574,3409823767,824822720,2177914693⟩:=z01 _ _ _ _ 52 _ zh6 z7C (by kernel_rfl)
theorem zh8:RUN (SCH z02) (STOF (z05 1)) 54=⟨20079379,4231826724,3541169062,2930670626,3934273405,1100153574,3409823767,824822720⟩:=z01 _ _ _ _ 53 _ zh7 z7D (by kernel_rfl)
theorem zh9:RUN (SCH z02) (STOF (z05 1)) 55=⟨2235160533,20079379,4231826724,3541169062,1365152638,3934273405,1100153574,3409823767⟩:=z01 _ _ _ _ 54 _ zh8 z7E (by kernel_rfl)
theorem zha:RUN (SCH z02) (STOF (z05 1)) 56=⟨1120555960,2235160533,20079379,4231826724,1474721306,1365152638,3934273405,1100153574⟩:=z01 _ _ _ _ 55 _ zh9 z7F (by kernel_rfl)
theorem zhb:RUN (SCH z02) (STOF (z05 1)) 57=⟨3790913903,1120555960,2235160533,20079379,951621451,1474721306,1365152638,3934273405⟩:=z01 _ _ _ _ 56 _ zha z7G (by kernel_rfl)
theorem zhc:RUN (SCH z02) (STOF (z05 1)) 58=⟨3160874707,3790913903,1120555960,2235160533,3684248943,951621451,1474721306,1365152638⟩:=z01 _ _ _ _ 57 _ zhb zb7 (by kernel_rfl)
theorem zhd:RUN (SCH z02) (STOF (z05 1)) 59=⟨310158089,3160874707,3790913903,1120555960,818986086,3684248943,951621451,1474721306⟩:=z01 _ _ _ _ 58 _ zhc zb8 (by kernel_rfl)
theorem zhe:RUN (SCH z02) (STOF (z05 1)) 60=⟨907003875,310158089,3160874707,3790913903,436861154,818986086,3684248943,951621451⟩:=z01 _ _ _ _ 59 _ zhd zb9 (by kernel_rfl)
theorem zhf:RUN (SCH z02) (STOF (z05 1)) 61=⟨4176700544,907003875,310158089,3160874707,3606237390,436861154,818986086,3684248943⟩:=z01 _ _ _ _ 60 _ zhe zba (by kernel_rfl)
theorem zhg:RUN (SCH z02) (STOF (z05 1)) 62=⟨1134256808,4176700544,907003875,310158089,4124671138,3606237390,436861154,818986086⟩:=z01 _ _ _ _ 61 _ zhf zbb (by kernel_rfl)
theorem zhh:RUN (SCH z02) (STOF (z05 1)) 63=⟨1529455603,1134256808,4176700544,907003875,2463922909,4124671138,3606237390,436861154⟩:=z01 _ _ _ _ 62 _ zhg zgo (by kernel_rfl)
theorem zhi:RUN (SCH z02) (STOF (z05 1)) 64=⟨3786312650,1529455603,1134256808,4176700544,1277391920,2463922909,4124671138,3606237390⟩:=z01 _ _ _ _ 63 _ zhh zgp (by kernel_rfl)
theorem ze0:([0] ++ END 1).length / 64=1:=by rw [List.length_append,z1K];kernel_rfl
theorem zbc (d:Int):z0e d [0]=COMP d (z05 d) z02:=by
  show z0o d ([0] ++ END 1) (([0] ++ END 1).length / 64)=_
  rw [ze0]
  rfl
theorem ziX:OUTW (z05 1) z02 0=1269730250:=by
  rw [OUTW,zhi]
  kernel_rfl
theorem zft:z0e 1 [0] 0=75:=by
  have h:=ziX
  rw [zbc,COMP]
  generalize OUTW (z05 1) z02=X at *
  rw [z0R,if_pos (by decide),z0A]
  show X 0 / 2 ^ 24 % 256=75
  rw [h]
def z03:Nat→Nat:=BLK ([118,4,1] ++ END 3) 0
theorem ze1:SCH z03 0=1979974016:=(z0i z03 0 (by decide)).trans (by kernel_rfl)
theorem z9K:SCH z03 1=0:=(z0i z03 1 (by decide)).trans (by kernel_rfl)
theorem z9L:SCH z03 2=0:=(z0i z03 2 (by decide)).trans (by kernel_rfl)
theorem z9M:SCH z03 3=0:=(z0i z03 3 (by decide)).trans (by kernel_rfl)
theorem z9N:SCH z03 4=0:=(z0i z03 4 (by decide)).trans (by kernel_rfl)
theorem z9O:SCH z03 5=0:=(z0i z03 5 (by decide)).trans (by kernel_rfl)
theorem z9P:SCH z03 6=0:=(z0i z03 6 (by decide)).trans (by kernel_rfl)
theorem z9Q:SCH z03 7=0:=(z0i z03 7 (by decide)).trans (by kernel_rfl)
theorem z9R:SCH z03 8=0:=(z0i z03 8 (by decide)).trans (by kernel_rfl)
theorem z78:SCH z03 9=0:=(z0i z03 9 (by decide)).trans (by kernel_rfl)
theorem z5L:SCH z03 10=0:=(z0i z03 10 (by decide)).trans (by kernel_rfl)
theorem z5M:SCH z03 11=0:=(z0i z03 11 (by decide)).trans (by kernel_rfl)
theorem z5N:SCH z03 12=0:=(z0i z03 12 (by decide)).trans (by kernel_rfl)
theorem z5O:SCH z03 13=0:=(z0i z03 13 (by decide)).trans (by kernel_rfl)
theorem z47:SCH z03 14=0:=(z0i z03 14 (by decide)).trans (by kernel_rfl)
theorem z48:SCH z03 15=24:=(z0i z03 15 (by decide)).trans (by kernel_rfl)
theorem z49:SCH z03 16=1979974016:=z04 z03 0 _ _ _ _ _ (by decide) z47 z78 z9K ze1 (by kernel_rfl)
theorem z4a:SCH z03 17=983040:=z04 z03 1 _ _ _ _ _ (by decide) z48 z5L z9L z9K (by kernel_rfl)
theorem z4b:SCH z03 18=2163061954:=z04 z03 2 _ _ _ _ _ (by decide) z49 z5M z9M z9L (by kernel_rfl)
theorem z4c:SCH z03 19=1610613702:=z04 z03 3 _ _ _ _ _ (by decide) z4a z5N z9N z9M (by kernel_rfl)
theorem z4d:SCH z03 20=1826171654:=z04 z03 4 _ _ _ _ _ (by decide) z4b z5O z9O z9N (by kernel_rfl)
theorem z4e:SCH z03 21=25426944:=z04 z03 5 _ _ _ _ _ (by decide) z4c z47 z9P z9O (by kernel_rfl)
theorem z4f:SCH z03 22=2969095637:=z04 z03 6 _ _ _ _ _ (by decide) z4d z48 z9Q z9P (by kernel_rfl)
theorem z4g:SCH z03 23=4152648078:=z04 z03 7 _ _ _ _ _ (by decide) z4e z49 z9R z9Q (by kernel_rfl)
theorem z4h:SCH z03 24=2139836496:=z04 z03 8 _ _ _ _ _ (by decide) z4f z4a z78 z9R (by kernel_rfl)
theorem z4i:SCH z03 25=1035532524:=z04 z03 9 _ _ _ _ _ (by decide) z4g z4b z5L z78 (by kernel_rfl)
theorem z4j:SCH z03 26=574477990:=z04 z03 10 _ _ _ _ _ (by decide) z4h z4c z5M z5L (by kernel_rfl)
theorem z4k:SCH z03 27=3493732955:=z04 z03 11 _ _ _ _ _ (by decide) z4i z4d z5N z5M (by kernel_rfl)
theorem z4l:SCH z03 28=1393776172:=z04 z03 12 _ _ _ _ _ (by decide) z4j z4e z5O z5N (by kernel_rfl)
theorem z4m:SCH z03 29=2253089637:=z04 z03 13 _ _ _ _ _ (by decide) z4k z4f z47 z5O (by kernel_rfl)
theorem z4n:SCH z03 30=3914451151:=z04 z03 14 _ _ _ _ _ (by decide) z4l z4g z48 z47 (by kernel_rfl)
theorem z4o:SCH z03 31=1725417296:=z04 z03 15 _ _ _ _ _ (by decide) z4m z4h z49 z48 (by kernel_rfl)
theorem z4p:SCH z03 32=1359173215:=z04 z03 16 _ _ _ _ _ (by decide) z4n z4i z4a z49 (by kernel_rfl)
theorem z4q:SCH z03 33=903163568:=z04 z03 17 _ _ _ _ _ (by decide) z4o z4j z4b z4a (by kernel_rfl)
theorem z4r:SCH z03 34=2471326224:=z04 z03 18 _ _ _ _ _ (by decide) z4p z4k z4c z4b (by kernel_rfl)
theorem z4s:SCH z03 35=823774989:=z04 z03 19 _ _ _ _ _ (by decide) z4q z4l z4d z4c (by kernel_rfl)
theorem z4t:SCH z03 36=164009750:=z04 z03 20 _ _ _ _ _ (by decide) z4r z4m z4e z4d (by kernel_rfl)
theorem z4u:SCH z03 37=1464648138:=z04 z03 21 _ _ _ _ _ (by decide) z4s z4n z4f z4e (by kernel_rfl)
theorem z4v:SCH z03 38=3434644150:=z04 z03 22 _ _ _ _ _ (by decide) z4t z4o z4g z4f (by kernel_rfl)
theorem z4w:SCH z03 39=3161181620:=z04 z03 23 _ _ _ _ _ (by decide) z4u z4p z4h z4g (by kernel_rfl)
theorem z4x:SCH z03 40=3902173805:=z04 z03 24 _ _ _ _ _ (by decide) z4v z4q z4i z4h (by kernel_rfl)
theorem z4y:SCH z03 41=2918484029:=z04 z03 25 _ _ _ _ _ (by decide) z4w z4r z4j z4i (by kernel_rfl)
theorem z4z:SCH z03 42=1875533432:=z04 z03 26 _ _ _ _ _ (by decide) z4x z4s z4k z4j (by kernel_rfl)
theorem z4A:SCH z03 43=914763908:=z04 z03 27 _ _ _ _ _ (by decide) z4y z4t z4l z4k (by kernel_rfl)
theorem z4B:SCH z03 44=275085993:=z04 z03 28 _ _ _ _ _ (by decide) z4z z4u z4m z4l (by kernel_rfl)
theorem z4C:SCH z03 45=573475606:=z04 z03 29 _ _ _ _ _ (by decide) z4A z4v z4n z4m (by kernel_rfl)
theorem z4D:SCH z03 46=361142452:=z04 z03 30 _ _ _ _ _ (by decide) z4B z4w z4o z4n (by kernel_rfl)
theorem z4E:SCH z03 47=1164267732:=z04 z03 31 _ _ _ _ _ (by decide) z4C z4x z4p z4o (by kernel_rfl)
theorem z5P:SCH z03 48=3418278767:=z04 z03 32 _ _ _ _ _ (by decide) z4D z4y z4q z4p (by kernel_rfl)
theorem z7H:SCH z03 49=399282407:=z04 z03 33 _ _ _ _ _ (by decide) z4E z4z z4r z4q (by kernel_rfl)
theorem z7I:SCH z03 50=4131314663:=z04 z03 34 _ _ _ _ _ (by decide) z5P z4A z4s z4r (by kernel_rfl)
theorem z7J:SCH z03 51=2765668782:=z04 z03 35 _ _ _ _ _ (by decide) z7H z4B z4t z4s (by kernel_rfl)
theorem z7K:SCH z03 52=2430419203:=z04 z03 36 _ _ _ _ _ (by decide) z7I z4C z4u z4t (by kernel_rfl)
theorem z7L:SCH z03 53=977460674:=z04 z03 37 _ _ _ _ _ (by decide) z7J z4D z4v z4u (by kernel_rfl)
theorem z7M:SCH z03 54=2822496742:=z04 z03 38 _ _ _ _ _ (by decide) z7K z4E z4w z4v (by kernel_rfl)
theorem z7N:SCH z03 55=400227469:=z04 z03 39 _ _ _ _ _ (by decide) z7L z5P z4x z4w (by kernel_rfl)
theorem z7O:SCH z03 56=3660752544:=z04 z03 40 _ _ _ _ _ (by decide) z7M z7H z4y z4x (by kernel_rfl)
theorem zbd:SCH z03 57=817825870:=z04 z03 41 _ _ _ _ _ (by decide) z7N z7I z4z z4y (by kernel_rfl)
theorem zbe:SCH z03 58=2666717932:=z04 z03 42 _ _ _ _ _ (by decide) z7O z7J z4A z4z (by kernel_rfl)
theorem zbf:SCH z03 59=990676170:=z04 z03 43 _ _ _ _ _ (by decide) zbd z7K z4B z4A (by kernel_rfl)
theorem zbg:SCH z03 60=41467273:=z04 z03 44 _ _ _ _ _ (by decide) zbe z7L z4C z4B (by kernel_rfl)
theorem zbh:SCH z03 61=1779687944:=z04 z03 45 _ _ _ _ _ (by decide) zbf z7M z4D z4C (by kernel_rfl)
theorem zhj:SCH z03 62=1793738367:=z04 z03 46 _ _ _ _ _ (by decide) zbg z7N z4E z4D (by kernel_rfl)
theorem zhk:SCH z03 63=556993083:=z04 z03 47 _ _ _ _ _ (by decide) zbh z7O z5P z4E (by kernel_rfl)
theorem ziY:RUN (SCH z03) (STOF (z05 1)) 0=⟨1778384896,0,0,0,0,0,0,0⟩:=by kernel_rfl
theorem ziZ:RUN (SCH z03) (STOF (z05 1)) 1=⟨3541140160,1778384896,0,0,3096326424,0,0,0⟩:=z01 _ _ _ _ 0 _ ziY ze1 (by kernel_rfl)
theorem zj0:RUN (SCH z03) (STOF (z05 1)) 2=⟨518972767,3541140160,1778384896,0,2015685103,3096326424,0,0⟩:=z01 _ _ _ _ 1 _ ziZ z9K (by kernel_rfl)
theorem zj1:RUN (SCH z03) (STOF (z05 1)) 3=⟨823603192,518972767,3541140160,1778384896,2151710045,2015685103,3096326424,0⟩:=z01 _ _ _ _ 2 _ zj0 z9L (by kernel_rfl)
theorem zj2:RUN (SCH z03) (STOF (z05 1)) 4=⟨1646737287,823603192,518972767,3541140160,2312367148,2151710045,2015685103,3096326424⟩:=z01 _ _ _ _ 3 _ zj1 z9M (by kernel_rfl)
theorem zj3:RUN (SCH z03) (STOF (z05 1)) 5=⟨3944590842,1646737287,823603192,518972767,2476427147,2312367148,2151710045,2015685103⟩:=z01 _ _ _ _ 4 _ zj2 z9N (by kernel_rfl)
theorem zj4:RUN (SCH z03) (STOF (z05 1)) 6=⟨1833458740,3944590842,1646737287,823603192,2239248730,2476427147,2312367148,2151710045⟩:=z01 _ _ _ _ 5 _ zj3 z9O (by kernel_rfl)
theorem zj5:RUN (SCH z03) (STOF (z05 1)) 7=⟨3758396031,1833458740,3944590842,1646737287,3398227911,2239248730,2476427147,2312367148⟩:=z01 _ _ _ _ 6 _ zj4 z9P (by kernel_rfl)
theorem zj6:RUN (SCH z03) (STOF (z05 1)) 8=⟨3397932324,3758396031,1833458740,3944590842,3387626738,3398227911,2239248730,2476427147⟩:=z01 _ _ _ _ 7 _ zj5 z9Q (by kernel_rfl)
theorem zj7:RUN (SCH z03) (STOF (z05 1)) 9=⟨2080980631,3397932324,3758396031,1833458740,3293431356,3387626738,3398227911,2239248730⟩:=z01 _ _ _ _ 8 _ zj6 z9R (by kernel_rfl)
theorem zhl:RUN (SCH z03) (STOF (z05 1)) 10=⟨1820021603,2080980631,3397932324,3758396031,3799492420,3293431356,3387626738,3398227911⟩:=z01 _ _ _ _ 9 _ zj7 z78 (by kernel_rfl)
theorem zhm:RUN (SCH z03) (STOF (z05 1)) 11=⟨2460203053,1820021603,2080980631,3397932324,1498855634,3799492420,3293431356,3387626738⟩:=z01 _ _ _ _ 10 _ zhl z5L (by kernel_rfl)
theorem zhn:RUN (SCH z03) (STOF (z05 1)) 12=⟨2199493052,2460203053,1820021603,2080980631,2790385501,1498855634,3799492420,3293431356⟩:=z01 _ _ _ _ 11 _ zhm z5M (by kernel_rfl)
theorem zho:RUN (SCH z03) (STOF (z05 1)) 13=⟨987827534,2199493052,2460203053,1820021603,2842306057,2790385501,1498855634,3799492420⟩:=z01 _ _ _ _ 12 _ zhn z5N (by kernel_rfl)
theorem zhp:RUN (SCH z03) (STOF (z05 1)) 14=⟨2580340481,987827534,2199493052,2460203053,313126024,2842306057,2790385501,1498855634⟩:=z01 _ _ _ _ 13 _ zho z5O (by kernel_rfl)
theorem zhq:RUN (SCH z03) (STOF (z05 1)) 15=⟨3359062569,2580340481,987827534,2199493052,302863753,313126024,2842306057,2790385501⟩:=z01 _ _ _ _ 14 _ zhp z47 (by kernel_rfl)
theorem zhr:RUN (SCH z03) (STOF (z05 1)) 16=⟨3484038914,3359062569,2580340481,987827534,976456098,302863753,313126024,2842306057⟩:=z01 _ _ _ _ 15 _ zhq z48 (by kernel_rfl)
theorem zhs:RUN (SCH z03) (STOF (z05 1)) 17=⟨684559052,3484038914,3359062569,2580340481,4141833578,976456098,302863753,313126024⟩:=z01 _ _ _ _ 16 _ zhr z49 (by kernel_rfl)
theorem zht:RUN (SCH z03) (STOF (z05 1)) 18=⟨3504185370,684559052,3484038914,3359062569,931278999,4141833578,976456098,302863753⟩:=z01 _ _ _ _ 17 _ zhs z4a (by kernel_rfl)
theorem zhu:RUN (SCH z03) (STOF (z05 1)) 19=⟨4223671300,3504185370,684559052,3484038914,952643195,931278999,4141833578,976456098⟩:=z01 _ _ _ _ 18 _ zht z4b (by kernel_rfl)
theorem zhv:RUN (SCH z03) (STOF (z05 1)) 20=⟨3554670433,4223671300,3504185370,684559052,3423918953,952643195,931278999,4141833578⟩:=z01 _ _ _ _ 19 _ zhu z4c (by kernel_rfl)
theorem zhw:RUN (SCH z03) (STOF (z05 1)) 21=⟨294313302,3554670433,4223671300,3504185370,3059077050,3423918953,952643195,931278999⟩:=z01 _ _ _ _ 20 _ zhv z4d (by kernel_rfl)
theorem zhx:RUN (SCH z03) (STOF (z05 1)) 22=⟨1626480143,294313302,3554670433,4223671300,408780192,3059077050,3423918953,952643195⟩:=z01 _ _ _ _ 21 _ zhw z4e (by kernel_rfl)
theorem zhy:RUN (SCH z03) (STOF (z05 1)) 23=⟨1740554561,1626480143,294313302,3554670433,828653678,408780192,3059077050,3423918953⟩:=z01 _ _ _ _ 22 _ zhx z4f (by kernel_rfl)
theorem zhz:RUN (SCH z03) (STOF (z05 1)) 24=⟨3802695057,1740554561,1626480143,294313302,2884376435,828653678,408780192,3059077050⟩:=z01 _ _ _ _ 23 _ zhy z4g (by kernel_rfl)
theorem zhA:RUN (SCH z03) (STOF (z05 1)) 25=⟨794052339,3802695057,1740554561,1626480143,3891342238,2884376435,828653678,408780192⟩:=z01 _ _ _ _ 24 _ zhz z4h (by kernel_rfl)
theorem zhB:RUN (SCH z03) (STOF (z05 1)) 26=⟨3088573399,794052339,3802695057,1740554561,66425970,3891342238,2884376435,828653678⟩:=z01 _ _ _ _ 25 _ zhA z4i (by kernel_rfl)
theorem zhC:RUN (SCH z03) (STOF (z05 1)) 27=⟨3312452174,3088573399,794052339,3802695057,3554841874,66425970,3891342238,2884376435⟩:=z01 _ _ _ _ 26 _ zhB z4j (by kernel_rfl)
theorem zhD:RUN (SCH z03) (STOF (z05 1)) 28=⟨2353810047,3312452174,3088573399,794052339,1585282355,3554841874,66425970,3891342238⟩:=z01 _ _ _ _ 27 _ zhC z4k (by kernel_rfl)
theorem zhE:RUN (SCH z03) (STOF (z05 1)) 29=⟨3112998958,2353810047,3312452174,3088573399,3670412790,1585282355,3554841874,66425970⟩:=z01 _ _ _ _ 28 _ zhD z4l (by kernel_rfl)
theorem zhF:RUN (SCH z03) (STOF (z05 1)) 30=⟨2898674914,3112998958,2353810047,3312452174,2048642498,3670412790,1585282355,3554841874⟩:=z01 _ _ _ _ 29 _ zhE z4m (by kernel_rfl)
theorem zhG:RUN (SCH z03) (STOF (z05 1)) 31=⟨548049599,2898674914,3112998958,2353810047,2752958182,2048642498,3670412790,1585282355⟩:=z01 _ _ _ _ 30 _ zhF z4n (by kernel_rfl)
theorem zhH:RUN (SCH z03) (STOF (z05 1)) 32=⟨1100797075,548049599,2898674914,3112998958,767635691,2752958182,2048642498,3670412790⟩:=z01 _ _ _ _ 31 _ zhG z4o (by kernel_rfl)
theorem zhI:RUN (SCH z03) (STOF (z05 1)) 33=⟨1126453158,1100797075,548049599,2898674914,3564281437,767635691,2752958182,2048642498⟩:=z01 _ _ _ _ 32 _ zhH z4p (by kernel_rfl)
theorem zhJ:RUN (SCH z03) (STOF (z05 1)) 34=⟨1181172691,1126453158,1100797075,548049599,884678199,3564281437,767635691,2752958182⟩:=z01 _ _ _ _ 33 _ zhI z4q (by kernel_rfl)
theorem zhK:RUN (SCH z03) (STOF (z05 1)) 35=⟨2129609914,1181172691,1126453158,1100797075,174645519,884678199,3564281437,767635691⟩:=z01 _ _ _ _ 34 _ zhJ z4r (by kernel_rfl)
theorem zhL:RUN (SCH z03) (STOF (z05 1)) 36=⟨4259818464,2129609914,1181172691,1126453158,4053952786,174645519,884678199,3564281437⟩:=z01 _ _ _ _ 35 _ zhK z4s (by kernel_rfl)
theorem zhM:RUN (SCH z03) (STOF (z05 1)) 37=⟨2111970979,4259818464,2129609914,1181172691,1129161765,4053952786,174645519,884678199⟩:=z01 _ _ _ _ 36 _ zhL z4t (by kernel_rfl)
theorem zhN:RUN (SCH z03) (STOF (z05 1)) 38=⟨587894076,2111970979,4259818464,2129609914,1232133406,1129161765,4053952786,174645519⟩:=z01 _ _ _ _ 37 _ zhM z4u (by kernel_rfl)
theorem zhO:RUN (SCH z03) (STOF (z05 1)) 39=⟨1982008953,587894076,2111970979,4259818464,739801084,1232133406,1129161765,4053952786⟩:=z01 _ _ _ _ 38 _ zhN z4v (by kernel_rfl)
theorem zhP:RUN (SCH z03) (STOF (z05 1)) 40=⟨2827025094,1982008953,587894076,2111970979,2362179855,739801084,1232133406,1129161765⟩:=z01 _ _ _ _ 39 _ zhO z4w (by kernel_rfl)
theorem zhQ:RUN (SCH z03) (STOF (z05 1)) 41=⟨933230881,2827025094,1982008953,587894076,327231796,2362179855,739801084,1232133406⟩:=z01 _ _ _ _ 40 _ zhP z4x (by kernel_rfl)
theorem zhR:RUN (SCH z03) (STOF (z05 1)) 42=⟨872403652,933230881,2827025094,1982008953,628858678,327231796,2362179855,739801084⟩:=z01 _ _ _ _ 41 _ zhQ z4y (by kernel_rfl)
theorem zhS:RUN (SCH z03) (STOF (z05 1)) 43=⟨76004226,872403652,933230881,2827025094,3782562743,628858678,327231796,2362179855⟩:=z01 _ _ _ _ 42 _ zhR z4z (by kernel_rfl)
theorem zhT:RUN (SCH z03) (STOF (z05 1)) 44=⟨1308597455,76004226,872403652,933230881,2063653190,3782562743,628858678,327231796⟩:=z01 _ _ _ _ 43 _ zhS z4A (by kernel_rfl)
theorem zhU:RUN (SCH z03) (STOF (z05 1)) 45=⟨3720016941,1308597455,76004226,872403652,1139055760,2063653190,3782562743,628858678⟩:=z01 _ _ _ _ 44 _ zhT z4B (by kernel_rfl)
theorem zhV:RUN (SCH z03) (STOF (z05 1)) 46=⟨2922337936,3720016941,1308597455,76004226,1453229339,1139055760,2063653190,3782562743⟩:=z01 _ _ _ _ 45 _ zhU z4C (by kernel_rfl)
theorem zhW:RUN (SCH z03) (STOF (z05 1)) 47=⟨3356876198,2922337936,3720016941,1308597455,3699957301,1453229339,1139055760,2063653190⟩:=z01 _ _ _ _ 46 _ zhV z4D (by kernel_rfl)
theorem zhX:RUN (SCH z03) (STOF (z05 1)) 48=⟨1391032627,3356876198,2922337936,3720016941,3429078135,3699957301,1453229339,1139055760⟩:=z01 _ _ _ _ 47 _ zhW z4E (by kernel_rfl)
theorem zhY:RUN (SCH z03) (STOF (z05 1)) 49=⟨3940047381,1391032627,3356876198,2922337936,1168239684,3429078135,3699957301,1453229339⟩:=z01 _ _ _ _ 48 _ zhX z5P (by kernel_rfl)
theorem zhZ:RUN (SCH z03) (STOF (z05 1)) 50=⟨1216256848,3940047381,1391032627,3356876198,1617133757,1168239684,3429078135,3699957301⟩:=z01 _ _ _ _ 49 _ zhY z7H (by kernel_rfl)
theorem zi0:RUN (SCH z03) (STOF (z05 1)) 51=⟨403218818,1216256848,3940047381,1391032627,1647673366,1617133757,1168239684,3429078135⟩:=z01 _ _ _ _ 50 _ zhZ z7I (by kernel_rfl)
theorem zi1:RUN (SCH z03) (STOF (z05 1)) 52=⟨1040258564,403218818,1216256848,3940047381,2684163042,1647673366,1617133757,1168239684⟩:=z01 _ _ _ _ 51 _ zi0 z7J (by kernel_rfl)
theorem zi2:RUN (SCH z03) (STOF (z05 1)) 53=⟨1316678956,1040258564,403218818,1216256848,1699811024,2684163042,1647673366,1617133757⟩:=z01 _ _ _ _ 52 _ zi1 z7K (by kernel_rfl)
theorem zi3:RUN (SCH z03) (STOF (z05 1)) 54=⟨3546558560,1316678956,1040258564,403218818,1821486343,1699811024,2684163042,1647673366⟩:=z01 _ _ _ _ 53 _ zi2 z7L (by kernel_rfl)
theorem zi4:RUN (SCH z03) (STOF (z05 1)) 55=⟨3633507066,3546558560,1316678956,1040258564,1797080036,1821486343,1699811024,2684163042⟩:=z01 _ _ _ _ 54 _ zi3 z7M (by kernel_rfl)
theorem zi5:RUN (SCH z03) (STOF (z05 1)) 56=⟨1956966331,3633507066,3546558560,1316678956,769230860,1797080036,1821486343,1699811024⟩:=z01 _ _ _ _ 55 _ zi4 z7N (by kernel_rfl)
theorem zi6:RUN (SCH z03) (STOF (z05 1)) 57=⟨4279539329,1956966331,3633507066,3546558560,1235101080,769230860,1797080036,1821486343⟩:=z01 _ _ _ _ 56 _ zi5 z7O (by kernel_rfl)
theorem zi7:RUN (SCH z03) (STOF (z05 1)) 58=⟨4109544537,4279539329,1956966331,3633507066,842076934,1235101080,769230860,1797080036⟩:=z01 _ _ _ _ 57 _ zi6 zbd (by kernel_rfl)
theorem zi8:RUN (SCH z03) (STOF (z05 1)) 59=⟨3341763404,4109544537,4279539329,1956966331,3586856029,842076934,1235101080,769230860⟩:=z01 _ _ _ _ 58 _ zi7 zbe (by kernel_rfl)
theorem zi9:RUN (SCH z03) (STOF (z05 1)) 60=⟨3036765497,3341763404,4109544537,4279539329,2614029302,3586856029,842076934,1235101080⟩:=z01 _ _ _ _ 59 _ zi8 zbf (by kernel_rfl)
theorem zia:RUN (SCH z03) (STOF (z05 1)) 61=⟨1236734871,3036765497,3341763404,4109544537,3517924143,2614029302,3586856029,842076934⟩:=z01 _ _ _ _ 60 _ zi9 zbg (by kernel_rfl)
theorem zib:RUN (SCH z03) (STOF (z05 1)) 62=⟨994181139,1236734871,3036765497,3341763404,3631449300,3517924143,2614029302,3586856029⟩:=z01 _ _ _ _ 61 _ zia zbh (by kernel_rfl)
theorem zic:RUN (SCH z03) (STOF (z05 1)) 63=⟨3269671956,994181139,1236734871,3036765497,2328254292,3631449300,3517924143,2614029302⟩:=z01 _ _ _ _ 62 _ zib zhj (by kernel_rfl)
theorem zid:RUN (SCH z03) (STOF (z05 1)) 64=⟨3779197602,3269671956,994181139,1236734871,3983654061,2328254292,3631449300,3517924143⟩:=z01 _ _ _ _ 63 _ zic zhk (by kernel_rfl)
theorem ze2:([118,4,1] ++ END 3).length / 64=1:=by rw [List.length_append,z1K];kernel_rfl
theorem zbi (d:Int):z0e d [118,4,1]=COMP d (z05 d) z03:=by
  show z0o d ([118,4,1] ++ END 3) (([118,4,1] ++ END 3).length / 64)=_
  rw [ze2]
  rfl
theorem zj8:OUTW (z05 1) z03 0=1262615202:=by
  rw [OUTW,zid]
  kernel_rfl
theorem zfu:z0e 1 [118,4,1] 0=75:=by
  have h:=zj8
  rw [zbi,COMP]
  generalize OUTW (z05 1) z03=X at *
  rw [z0R,if_pos (by decide),z0A]
  show X 0 / 2 ^ 24 % 256=75
  rw [h]
theorem ze3:((List.range 32).all fun i=>z0e 1 [118,4,1] i == z0e 1 [0] i)=true:=by
  rw [List.all_eq_true]
  intro i _
  cases i with
  | zero=>rw [zft,zfu];rfl
  | succ i=>
    rw [zbc,zbi,COMP,COMP,z0R,z0R,if_neg (by have:WID 1=1:=rfl;omega),if_neg (by have:WID 1=1:=rfl;omega)]
    rfl
end Go.Proofs.YtbmjoiiagldklaaDoor.HX
