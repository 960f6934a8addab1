/- Texts of ClashNothing, one behind the other: ClashNothingWalk, PosDoor, HashDoor, MmrDoor. -/
import Derived.Test.YtbeelmlpalkohaaGreatDoorRows
import Derived.ProofKit
import Derived.LaidMore
import Derived.OpenShut
import Derived.Stop.Joined
import Derived.Test.YtbeelmlpalkohaaGreatDoorClashNothingP6
import Derived.Test.YtbeelmlpalkohaaGreatDoorClashNothingP12
import Derived.Test.YtbeelmlpalkohaaGreatDoorClashNothingP15
import Derived.Test.YtbeelmlpalkohaaGreatDoorClashNothingP16
import Derived.Test.YtbeelmlpalkohaaGreatDoorClashNothingP21
import Derived.Test.YtbeelmlpalkohaaGreatDoorClashNothingP33
import Derived.Test.YtbeelmlpalkohaaGreatDoorClashNothingP34
namespace Go.Proofs.YtbeelmlpalkohaaGreatDoor
open Go.RowKit
set_option maxRecDepth 100000
theorem z4B {n:Nat} (h:n<2 ^ 40):IntKind.u64.wrap (n:Int)=(n:Int):=by
  simp [IntKind.wrap,IntKind.signed,IntKind.bits]
  omega
theorem z9a (f:Nat→Nat):HX.z05 .u8 32 f=z00 (LST f):=by
  have h:=congrArg Array.toList (z1n f)
  rw [HX.z0I] at h
  simpa using h
theorem z9b (d:Int) (a:Option Addr) (n c i m k:Nat) (w:World) (hn:(100:Int)<(n:Int)):Calls Tryz.prog 3 #[.int .i64 d,.slice a n c,.int .u64 (i:Int),.int .u64 (m:Int),.int .u64 (k:Int)] w fun e w'=>e=.returned (.bool true)∧Below w.heap.size w w':=by
  go_enter Tryz.func3,Tryz.ntmps3
  go_wp2
  go_ret
  exact ⟨rfl,Below.refl _ _⟩
theorem z9S (d:Int) (a:Option Addr) (n c i m k:Nat) (w:World) (hn:¬ (100:Int)<(n:Int)) (hk:n<k):Calls Tryz.prog 3 #[.int .i64 d,.slice a n c,.int .u64 (i:Int),.int .u64 (m:Int),.int .u64 (k:Int)] w fun e w'=>e=.returned (.bool true)∧Below w.heap.size w w':=by
  have hu:=z4B (n:=n) (by omega)
  have h1:(n:Int)<(k:Int):=by omega
  go_enter Tryz.func3,Tryz.ntmps3
  go_wp2
  go_ret
  exact ⟨rfl,Below.refl _ _⟩
theorem z9c (d:Int) (a:Option Addr) (n c i m k:Nat) (w:World) (hn:¬ (100:Int)<(n:Int)) (hk:k≤n) (hm:k<m):Calls Tryz.prog 3 #[.int .i64 d,.slice a n c,.int .u64 (i:Int),.int .u64 (m:Int),.int .u64 (k:Int)] w fun e w'=>e=.returned (.bool true)∧Below w.heap.size w w':=by
  have hu:=z4B (n:=n) (by omega)
  have h1:¬ (n:Int)<(k:Int):=by omega
  have h2:(k:Int)<(m:Int):=by omega
  go_enter Tryz.func3,Tryz.ntmps3
  go_wp2
  go_ret
  exact ⟨rfl,Below.refl _ _⟩
theorem z9T (d:Int) (a:Option Addr) (n c i m k:Nat) (w:World) (hn:¬ (100:Int)<(n:Int)) (hk:k≤n) (hm:m≤k) (hi:m≤i):Calls Tryz.prog 3 #[.int .i64 d,.slice a n c,.int .u64 (i:Int),.int .u64 (m:Int),.int .u64 (k:Int)] w fun e w'=>e=.returned (.bool true)∧Below w.heap.size w w':=by
  have hu:=z4B (n:=n) (by omega)
  have h1:¬ (n:Int)<(k:Int):=by omega
  have h2:¬ (k:Int)<(m:Int):=by omega
  have h3:(m:Int)≤(i:Int):=by omega
  go_enter Tryz.func3,Tryz.ntmps3
  go_wp2
  go_ret
  exact ⟨rfl,Below.refl _ _⟩
set_option maxHeartbeats 8000000 in
theorem z9d (d:Int) (a:Option Addr) (n c i m k:Nat) (hs:Nat→Nat→Nat) (w:World) (hn:¬ (100:Int)<(n:Int)) (hkn:k≤n) (hmk:m≤k) (him:i<m) (hH:HX.HASHES w a n hs) (h8:∀ i,i<n→∀ j,hs i j<256) (hT:Tabled w) (hX:HX.Tabled w) (h0:2<w.heap.size):Calls Tryz.prog 3 #[.int .i64 d,.slice a n c,.int .u64 (i:Int),.int .u64 (m:Int),.int .u64 (k:Int)] w fun e w'=>e=.returned (.bool true)∧Below w.heap.size w w':=by
  have hu:=z4B (n:=n) (by omega)
  have hk1:¬ (n:Int)<(k:Int):=by omega
  have hm1:¬ (k:Int)<(m:Int):=by omega
  have hi1:¬ (m:Int)≤(i:Int):=by omega
  have hi2:(i:Int)<(n:Int):=by omega
  have cn:=HX.zbJ d 3 (by decide) w
  obtain ⟨lb,lo,rfl,hlb,hlr⟩:=hH (by omega)
  have HT:Aside (∀ W,Below w.heap.size w W→Tabled W∧HX.Tabled W∧0<W.heap.size∧2<W.heap.size∧∀ j,j<n→W.rangeAt lb (lo+j*32) (HX.z05 .u8 32 (hs j))):=fun W h=>by
    have hz:=h.size
    exact ⟨hT.below (by omega) h,hX.below h,by omega,by omega,fun j hj=>z1d (hlr j hj) h hlb⟩
  have HA:Aside (n≤100∧k≤n∧m≤k∧i<m∧(∀ i,i<n→∀ j,hs i j<256)):=⟨by omega,hkn,hmk,him,h8⟩
  clear hH h8 hT hX h0 hlb hlr hkn hmk him
  go_enter Tryz.func3,Tryz.ntmps3
  go_wp2_with fail
  refine cn.mono ?_
  rintro e w1 ⟨g,rfl,hg,hHf,hb1⟩
  clear cn
  have A1:Aside (HX.FOREST w1 w.heap.size g d 3 0 (fun _=>none) hs∧Below w.heap.size w w1):=⟨HX.FOREST.new (B:=w.heap.size) hHf (by decide) hg hs,hb1⟩
  clear hg hHf hb1
  go_upto_region 7 with fail
  go_loopg [13] n (fun r s13 wx=>∃ (j:Nat) (C:HX.z09),s13=.int .i64 (j:Int)∧Aside (j+r=n∧HX.FOREST wx w.heap.size g d 3 j C hs∧Below w.heap.size w wx))
  case atStart=>exact ⟨0,_,rfl,by omega,A1.out⟩
  case round=>
    obtain ⟨j,C,rfl,A⟩:=hrel
    clear A1
    cases gk with
    | zero=>
      obtain rfl:j=n:=by have:=A.out.1;omega
      have hlt:¬ (j:Int)<(j:Int):=by omega
      have R1:Aside (HX.FOREST wr w.heap.size g d 3 j C hs∧Below w.heap.size w wr):=A.out.2
      have h300:=HA.out.1
      have hkn:=HA.out.2.1
      have hmk:=HA.out.2.2.1
      have him:=HA.out.2.2.2.1
      have cM:=z95 R1.out.1 i m him (by omega) (by omega) (HT.out _ R1.out.2).1 (HT.out _ R1.out.2).2.2.1
      clear A h300 hkn hmk him
      go_wp2_with fail
      refine cM.mono ?_
      rintro e vA ⟨aA,cA,rfl,oA,hvA⟩
      clear cM
      obtain ⟨qA,hqA⟩:∃ q,(PSP i m).length=q:=⟨_,rfl⟩
      obtain ⟨lA,hlA⟩:∃ l,CAT (TVAL d hs) (PSP i m)=l:=⟨_,rfl⟩
      rw [hqA,hlA] at oA
      rw [hqA]
      obtain ⟨xA,hxA⟩:∃ x,vA.alloc (.cells #[.int .u64 (m:Int),.int .u64 (i:Int),.slice aA qA cA] 32)=x:=⟨_,rfl⟩
      obtain ⟨bA,hbA⟩:∃ b,vA.heap.size=b:=⟨_,rfl⟩
      have hkA:Below wr.heap.size wr xA:=by rw [← hxA];exact hvA.alloc hvA.size _
      have hPA:Has xA bA #[.int .u64 (m:Int),.int .u64 (i:Int),.slice aA qA cA] 32:=by rw [← hxA,← hbA];exact Has.new _ _ _
      have hlrA:∀ x∈lA,0≤x∧x≤255:=by rw [← hlA];exact z2r d hs j HA.out.2.2.2.2 _ (z74 (by have:=HA.out;omega) (by have:=HA.out;omega) (by have:=HA.out;omega))
      have hfA:Flat xA aA qA lA:=by rw [← hxA];exact (z2G oA hlrA).below ((Below.refl _ _).alloc (Nat.le_refl _) _)
      have hq188_A:qA≤188:=by rw [← hqA];have:=HA.out;have h:=z6B (i:=i) (n:=m) (by omega) (by omega);omega
      have RA:Aside (HX.FOREST xA w.heap.size g d 3 j C hs∧Below w.heap.size w xA∧Has xA bA #[.int .u64 (m:Int),.int .u64 (i:Int),.slice aA qA cA] 32∧Flat xA aA qA lA∧qA≤188):=⟨R1.out.1.below hkA,R1.out.2.trans (hkA.mono R1.out.2.size),hPA,hfA,hq188_A⟩
      clear R1 oA hvA hkA hPA hlrA hfA hq188_A hqA hlA
      go_upto_region 11 with fail
      clear hxA hbA
      have cM:=z95 RA.out.1 i k (by have:=HA.out;omega) (by have:=HA.out;omega) (by have:=HA.out;omega) (HT.out _ RA.out.2.1).1 (HT.out _ RA.out.2.1).2.2.1
      go_wp2_with fail
      refine cM.mono ?_
      rintro e vB ⟨aB,cB,rfl,oB,hvB⟩
      clear cM
      obtain ⟨qB,hqB⟩:∃ q,(PSP i k).length=q:=⟨_,rfl⟩
      obtain ⟨lB,hlB⟩:∃ l,CAT (TVAL d hs) (PSP i k)=l:=⟨_,rfl⟩
      rw [hqB,hlB] at oB
      rw [hqB]
      obtain ⟨xB,hxB⟩:∃ x,vB.alloc (.cells #[.int .u64 (k:Int),.int .u64 (i:Int),.slice aB qB cB] 32)=x:=⟨_,rfl⟩
      obtain ⟨bB,hbB⟩:∃ b,vB.heap.size=b:=⟨_,rfl⟩
      have hkB:Below xA.heap.size xA xB:=by rw [← hxB];exact hvB.alloc hvB.size _
      have hPB:Has xB bB #[.int .u64 (k:Int),.int .u64 (i:Int),.slice aB qB cB] 32:=by rw [← hxB,← hbB];exact Has.new _ _ _
      have hlrB:∀ x∈lB,0≤x∧x≤255:=by rw [← hlB];exact z2r d hs j HA.out.2.2.2.2 _ (z74 (by have:=HA.out;omega) (by have:=HA.out;omega) (by have:=HA.out;omega))
      have hfB:Flat xB aB qB lB:=by rw [← hxB];exact (z2G oB hlrB).below ((Below.refl _ _).alloc (Nat.le_refl _) _)
      have hq188_B:qB≤188:=by rw [← hqB];have:=HA.out;have h:=z6B (i:=i) (n:=k) (by omega) (by omega);omega
      have RB:Aside (HX.FOREST xB w.heap.size g d 3 j C hs∧Below w.heap.size w xB∧Has xB bA #[.int .u64 (m:Int),.int .u64 (i:Int),.slice aA qA cA] 32∧Flat xB aA qA lA∧qA≤188∧Has xB bB #[.int .u64 (k:Int),.int .u64 (i:Int),.slice aB qB cB] 32∧Flat xB aB qB lB∧qB≤188):=⟨RA.out.1.below hkB,RA.out.2.1.trans (hkB.mono RA.out.2.1.size),RA.out.2.2.1.keep hkB,RA.out.2.2.2.1.below hkB,RA.out.2.2.2.2,hPB,hfB,hq188_B⟩
      clear RA oB hvB hkB hPB hlrB hfB hq188_B hqB hlB
      go_upto_region 12 with fail
      clear hxB hbB
      have cM:=z75 RB.out.1 m k (by have:=HA.out;omega) (by have:=HA.out;omega) (by have:=HA.out;omega) (HT.out _ RB.out.2.1).1 (HT.out _ RB.out.2.1).2.2.1
      go_wp2_with fail
      refine cM.mono ?_
      rintro e vD ⟨aD,cD,rfl,oD,hvD⟩
      clear cM
      obtain ⟨qD,hqD⟩:∃ q,(PXS m k).length=q:=⟨_,rfl⟩
      obtain ⟨lD,hlD⟩:∃ l,CAT (TVAL d hs) (PXS m k)=l:=⟨_,rfl⟩
      rw [hqD,hlD] at oD
      rw [hqD]
      obtain ⟨xD,hxD⟩:∃ x,vD.alloc (.cells #[.int .u64 (m:Int),.int .u64 (k:Int),.slice aD qD cD] 36)=x:=⟨_,rfl⟩
      obtain ⟨bD,hbD⟩:∃ b,vD.heap.size=b:=⟨_,rfl⟩
      have hkD:Below xB.heap.size xB xD:=by rw [← hxD];exact hvD.alloc hvD.size _
      have hPD:Has xD bD #[.int .u64 (m:Int),.int .u64 (k:Int),.slice aD qD cD] 36:=by rw [← hxD,← hbD];exact Has.new _ _ _
      have hlrD:∀ x∈lD,0≤x∧x≤255:=by rw [← hlD];exact z2r d hs j HA.out.2.2.2.2 _ (zaG (by have:=HA.out;omega) (by have:=HA.out;omega) (by have:=HA.out;omega))
      have hfD:Flat xD aD qD lD:=by rw [← hxD];exact (z2G oD hlrD).below ((Below.refl _ _).alloc (Nat.le_refl _) _)
      have hq188_D:qD≤188:=by rw [← hqD];have:=HA.out;exact z5T (by omega) (by omega)
      have RD:Aside (HX.FOREST xD w.heap.size g d 3 j C hs∧Below w.heap.size w xD∧Has xD bA #[.int .u64 (m:Int),.int .u64 (i:Int),.slice aA qA cA] 32∧Flat xD aA qA lA∧Has xD bB #[.int .u64 (k:Int),.int .u64 (i:Int),.slice aB qB cB] 32∧Flat xD aB qB lB∧Has xD bD #[.int .u64 (m:Int),.int .u64 (k:Int),.slice aD qD cD] 36∧Flat xD aD qD lD):=⟨RB.out.1.below hkD,RB.out.2.1.trans (hkD.mono RB.out.2.1.size),RB.out.2.2.1.keep hkD,RB.out.2.2.2.1.below hkD,RB.out.2.2.2.2.2.1.keep hkD,RB.out.2.2.2.2.2.2.1.below hkD,hPD,hfD⟩
      have HQ:Aside (qA≤188∧qB≤188∧qD≤188):=⟨RB.out.2.2.2.2.1,RB.out.2.2.2.2.2.2.2,hq188_D⟩
      clear RB oD hvD hkD hPD hlrD hfD hq188_D hqD hlD
      go_upto_region 15 with fail
      clear hxD hbD
      have y0:xD.cell? ⟨bA,0,none⟩=some (.int .u64 (m:Int)):=RD.out.2.2.1.cell 0
      have y1:xD.cell? ⟨bA,1,none⟩=some (.int .u64 (i:Int)):=RD.out.2.2.1.cell 1
      have y2:xD.cell? ⟨bA,2,none⟩=some (.slice aA qA cA):=RD.out.2.2.1.cell 2
      have cE:=z7n m i (by have:=HA.out;omega) (by have:=HA.out;omega) aA qA cA (by have:=HQ.out.1;omega) lA xD RD.out.2.2.2.1 (HT.out _ RD.out.2.1).1 (HT.out _ RD.out.2.1).2.2.1
      generalize ENC m i qA lA=Z1 at cE
      go_wp2_with fail
      refine cE.mono ?_
      rintro e e1 ⟨vv1,rfl, -,hb1⟩
      clear cE y0 y1 y2
      have RE1:Aside (HX.FOREST e1 w.heap.size g d 3 j C hs∧Below w.heap.size w e1∧Has e1 bA #[.int .u64 (m:Int),.int .u64 (i:Int),.slice aA qA cA] 32∧Flat e1 aA qA lA∧Has e1 bB #[.int .u64 (k:Int),.int .u64 (i:Int),.slice aB qB cB] 32∧Flat e1 aB qB lB∧Has e1 bD #[.int .u64 (m:Int),.int .u64 (k:Int),.slice aD qD cD] 36∧Flat e1 aD qD lD):=⟨RD.out.1.below hb1,RD.out.2.1.trans (hb1.mono RD.out.2.1.size),RD.out.2.2.1.keep hb1,RD.out.2.2.2.1.below hb1,RD.out.2.2.2.2.1.keep hb1,RD.out.2.2.2.2.2.1.below hb1,RD.out.2.2.2.2.2.2.1.keep hb1,RD.out.2.2.2.2.2.2.2.below hb1⟩
      clear RD hb1
      go_upto_region 16 with fail
      have y0:e1.cell? ⟨bB,0,none⟩=some (.int .u64 (k:Int)):=RE1.out.2.2.2.2.1.cell 0
      have y1:e1.cell? ⟨bB,1,none⟩=some (.int .u64 (i:Int)):=RE1.out.2.2.2.2.1.cell 1
      have y2:e1.cell? ⟨bB,2,none⟩=some (.slice aB qB cB):=RE1.out.2.2.2.2.1.cell 2
      have cE:=z7n k i (by have:=HA.out;omega) (by have:=HA.out;omega) aB qB cB (by have:=HQ.out.2.1;omega) lB e1 RE1.out.2.2.2.2.2.1 (HT.out _ RE1.out.2.1).1 (HT.out _ RE1.out.2.1).2.2.1
      generalize ENC k i qB lB=Z2 at cE
      go_wp2_with fail
      refine cE.mono ?_
      rintro e e2 ⟨vv2,rfl, -,hb2⟩
      clear cE y0 y1 y2
      have RE2:Aside (HX.FOREST e2 w.heap.size g d 3 j C hs∧Below w.heap.size w e2∧Has e2 bA #[.int .u64 (m:Int),.int .u64 (i:Int),.slice aA qA cA] 32∧Flat e2 aA qA lA∧Has e2 bB #[.int .u64 (k:Int),.int .u64 (i:Int),.slice aB qB cB] 32∧Flat e2 aB qB lB∧Has e2 bD #[.int .u64 (m:Int),.int .u64 (k:Int),.slice aD qD cD] 36∧Flat e2 aD qD lD):=⟨RE1.out.1.below hb2,RE1.out.2.1.trans (hb2.mono RE1.out.2.1.size),RE1.out.2.2.1.keep hb2,RE1.out.2.2.2.1.below hb2,RE1.out.2.2.2.2.1.keep hb2,RE1.out.2.2.2.2.2.1.below hb2,RE1.out.2.2.2.2.2.2.1.keep hb2,RE1.out.2.2.2.2.2.2.2.below hb2⟩
      clear RE1 hb2
      go_upto_region 17 with fail
      have y0:e2.cell? ⟨bD,0,none⟩=some (.int .u64 (m:Int)):=RE2.out.2.2.2.2.2.2.1.cell 0
      have y1:e2.cell? ⟨bD,1,none⟩=some (.int .u64 (k:Int)):=RE2.out.2.2.2.2.2.2.1.cell 1
      have y2:e2.cell? ⟨bD,2,none⟩=some (.slice aD qD cD):=RE2.out.2.2.2.2.2.2.1.cell 2
      have cE:=z5W m k (by have:=HA.out;omega) (by have:=HA.out;omega) aD qD cD (by have:=HQ.out.2.2;omega) lD e2 RE2.out.2.2.2.2.2.2.2 (HT.out _ RE2.out.2.1).1 (HT.out _ RE2.out.2.1).2.2.1
      generalize ENX m k qD lD=Z3 at cE
      go_wp2_with fail
      refine cE.mono ?_
      rintro e e3 ⟨vv3,rfl, -,hb3⟩
      clear cE y0 y1 y2
      have RE3:Aside (HX.FOREST e3 w.heap.size g d 3 j C hs∧Below w.heap.size w e3∧Has e3 bA #[.int .u64 (m:Int),.int .u64 (i:Int),.slice aA qA cA] 32∧Flat e3 aA qA lA∧Has e3 bB #[.int .u64 (k:Int),.int .u64 (i:Int),.slice aB qB cB] 32∧Flat e3 aB qB lB∧Has e3 bD #[.int .u64 (m:Int),.int .u64 (k:Int),.slice aD qD cD] 36∧Flat e3 aD qD lD):=⟨RE2.out.1.below hb3,RE2.out.2.1.trans (hb3.mono RE2.out.2.1.size),RE2.out.2.2.1.keep hb3,RE2.out.2.2.2.1.below hb3,RE2.out.2.2.2.2.1.keep hb3,RE2.out.2.2.2.2.2.1.below hb3,RE2.out.2.2.2.2.2.2.1.keep hb3,RE2.out.2.2.2.2.2.2.2.below hb3⟩
      clear RE2 hb3
      go_upto_region 18 with fail
      have iA:IsH (LST (HX.z1A d hs m)):=z4Q fun x=>HX.z97 _ _ _ x
      have iB:IsH (LST (HX.z1A d hs k)):=z4Q fun x=>HX.z97 _ _ _ x
      have cR:=HX.zd8 RE3.out.1 m (by have:=HA.out;omega) (HT.out _ RE3.out.2.1).1 (HT.out _ RE3.out.2.1).2.1
      rw [z1n] at cR
      have CR2:Aside (∀ W,Below e3.heap.size e3 W→Calls Tryz.prog 10 #[.pointer (some ⟨g,0,none⟩),.int .u64 (k:Int)] W fun e w'=>e=.returned (.tuple #[.agg (z00 (LST (HX.z1A d hs k))).toArray,.int .i64 0])∧Below W.heap.size W w'):=fun W h=>by
        have hw:=RE3.out.2.1.trans (h.mono RE3.out.2.1.size)
        have:=HX.zd8 (RE3.out.1.below h) k (by have:=HA.out;omega) (HT.out _ hw).1 (HT.out _ hw).2.1
        rw [z1n] at this
        exact this
      generalize LST (HX.z1A d hs m)=R at *
      generalize LST (HX.z1A d hs k)=S2 at *
      have lR:=iA.1
      have lS2:=iB.1
      clear iA iB
      go_wp2_with fail
      refine cR.mono ?_
      rintro e f1 ⟨rfl,hg1⟩
      clear cR
      go_upto_region 19 with (first
        | (refine wpList_store_row rfl 30 (.tmp 25) (.tmp 133) rfl _ _ rfl rfl 30 _ (Has.new f1 _ _) (z0j lR) (by simp [z00,lR]) (z0B R) ?_;rw [World.setRow_alloc_new])
        | fail)
      obtain ⟨f2,hf2⟩:∃ x,f1.alloc (.cells (z00 R).toArray 30)=x:=⟨_,rfl⟩
      obtain ⟨br,hbr⟩:∃ x,f1.heap.size=x:=⟨_,rfl⟩
      rw [hf2,hbr]
      have hg2:Below e3.heap.size e3 f2:=by rw [← hf2];exact hg1.alloc hg1.size _
      have kR:Has f2 br (z00 R).toArray 30:=by rw [← hf2,← hbr];exact Has.new _ _ _
      have cR:=CR2.out f2 hg2
      have RF2:Aside (Below e3.heap.size e3 f2∧Has f2 br (z00 R).toArray 30):=⟨hg2,kR⟩
      clear hf2 hbr hg2 kR CR2 hg1
      go_wp2_with fail
      refine cR.mono ?_
      rintro e f3 ⟨rfl,hg3⟩
      clear cR
      go_upto_region 20 with (first
        | (refine wpList_store_row rfl 30 (.tmp 27) (.tmp 139) rfl _ _ rfl rfl 30 _ (Has.new f3 _ _) (z0j lS2) (by simp [z00,lS2]) (z0B S2) ?_;rw [World.setRow_alloc_new])
        | fail)
      obtain ⟨W0,hW0⟩:∃ x,f3.alloc (.cells (z00 S2).toArray 30)=x:=⟨_,rfl⟩
      obtain ⟨bs,hbs⟩:∃ x,f3.heap.size=x:=⟨_,rfl⟩
      rw [hW0,hbs]
      have hg4:Below f2.heap.size f2 W0:=by rw [← hW0];exact hg3.alloc hg3.size _
      have kS:Has W0 bs (z00 S2).toArray 30:=by rw [← hW0,← hbs];exact Has.new _ _ _
      have kR:=RF2.out.2.keep hg4
      have hg5:Below e3.heap.size e3 W0:=RF2.out.1.trans (hg4.mono RF2.out.1.size)
      have L0:Aside (∀ W,Below W0.heap.size W0 W→Below w.heap.size w W∧Has W br (z00 R).toArray 30∧Has W bs (z00 S2).toArray 30∧W.rangeAt lb (lo+i*32) (z00 (LST (hs i)))∧Tabled W∧HX.Tabled W∧HX.FOREST W w.heap.size g d 3 j C hs):=fun W h=>by
        have h5:Below e3.heap.size e3 W:=hg5.trans (h.mono hg5.size)
        have h1:Below w.heap.size w W:=RE3.out.2.1.trans (h5.mono RE3.out.2.1.size)
        have h2:=HT.out W h1
        exact ⟨h1,kR.keep h,kS.keep h,by rw [← z9a];exact h2.2.2.2.2 i (by have:=HA.out;omega),h2.1,h2.2.1,RE3.out.1.below h5⟩
      have lL:(LST (hs i)).length=32:=z23 _
      generalize LST (hs i)=L at *
      clear hW0 hbs hg4 kS kR hg5 RE3 RF2 hg3 HT
      have hal:∀ (W:World) (o:Obj),Below W0.heap.size W0 W→Below W0.heap.size W0 (W.alloc o):=fun W o h=>h.alloc h.size o
      have hst:∀ (W:World) (b j:Nat) (v:Value),Below W0.heap.size W0 W→W0.heap.size≤b→Below W0.heap.size W0 (W.setCell ⟨b,j,none⟩ v):=fun W b j v h hb=>h.setCell (p:=⟨b,j,none⟩) hb v
      refine zcI W0 d lb lo j c i m br R L vv1 lR lL hi2 W0.heap.size (fun W=>Below W0.heap.size W0 W) (Below.refl _ _).drew (fun W h=>⟨z2Q (L0.out W h).2.1,(L0.out W h).2.2.2.1⟩) (fun W h=>h.size) hal hst (fun W h=>(z8v d (m:Int) (i:Int) R L lL vv1 vv1 W).mono fun e w' h'=>⟨h'.1,h.trans (h'.2.mono h.size),h'.2⟩) (fun _ _ _ _ _ h=>h) ?_
      intro z1 W1 hW1
      dsimp only
      go_upto_region 21 with fail
      refine zcJ W1 d lb lo j c i m k br bs R S2 L vv1 vv2 vv3 lR lS2 lL hi2 W0.heap.size (fun W=>Below W0.heap.size W0 W) hW1.drew (fun W h=>⟨z2Q (L0.out W h).2.1,z2Q (L0.out W h).2.2.1,(L0.out W h).2.2.2.1⟩) (fun W h=>h.size) hal hst (fun W h=>(z8w d (i:Int) (m:Int) (k:Int) R S2 L lL vv1 vv2 vv3 W).mono fun e w' h'=>⟨h'.1,h.trans (h'.2.mono h.size),h'.2⟩) (fun _ _ _ _ _ h=>h) ?_
      intro z2 W2 hW2
      dsimp only
      clear hW1 hal hst
      have kR:=(L0.out W2 hW2).2.1
      have kS:=(L0.out W2 hW2).2.2.1
      have cF:=zbs d (m:Int) (k:Int) R S2 lR vv3 vv3 W2
      go_wp2_with (first
        | (refine wpList_load_row rfl 30 (.tmp 25) rfl br rfl 30 (z00 R).toArray (0,0) _ kR Tryz.underlying30 rfl (z0j lR) ?_)
        | (refine wpList_load_row rfl 30 (.tmp 27) rfl bs rfl 30 (z00 S2).toArray (0,0) _ kS Tryz.underlying30 rfl (z0j lS2) ?_)
        | fail)
      refine cF.mono ?_
      rintro e W3 ⟨rfl,hb3⟩
      clear cF kR kS
      go_upto_region 23 with fail
      obtain ⟨W4,hW4⟩:∃ x,W3.alloc (.cells #[.slice none 0 0,.slice none 0 0] 46)=x:=⟨_,rfl⟩
      rw [hW4]
      have h04:Below W0.heap.size W0 W4:=by
        have h3:Below W0.heap.size W0 W3:=hW2.trans (hb3.mono hW2.size)
        rw [← hW4]
        exact h3.alloc h3.size _
      clear hW4 hb3 hW2
      have hPL:HX.HL (HX.PKV d hs j)=z00 (CAT (TVAL d hs) (SPAN 0 j)):=zhf d hs (by have:=HA.out;omega)
      have hPr:∀ x∈CAT (TVAL d hs) (SPAN 0 j),0≤x∧x≤255:=z2r d hs j HA.out.2.2.2.2 _ (fun s hs=>by
        have:=((z2m (a:=0) (b:=j) (by have:=HA.out;omega) (Nat.zero_le j)).within _ hs).2.1
        omega)
      have hpc:PC j≤64:=z1h 64 j (by have:=HA.out;omega)
      have cP:=HX.z98 (L0.out W4 h04).2.2.2.2.2.2 (L0.out W4 h04).2.2.2.2.1
      have CP2:Aside (∀ W,Below W0.heap.size W0 W→Calls Tryz.prog 15 #[.pointer (some ⟨g,0,none⟩)] W fun e w'=>∃ v,e=.returned v∧w'.ownsRow W.heap.size 30 32 v (PC j) (HX.HL (HX.PKV d hs j))∧Below W.heap.size W w'):=fun W h=>HX.z98 (L0.out W h).2.2.2.2.2.2 (L0.out W h).2.2.2.2.1
      rw [hPL] at cP CP2
      generalize CAT (TVAL d hs) (SPAN 0 j)=PL at *
      generalize PC j=np at *
      have HP:Aside ((∀ x∈PL,0≤x∧x≤255)∧np≤64):=⟨hPr,hpc⟩
      clear hPL hPr hpc
      go_wp2_with fail
      refine cP.mono ?_
      rintro e W5 ⟨v5,rfl,o5,hb5⟩
      clear cP
      have h05:Below W0.heap.size W0 W5:=h04.trans (hb5.mono h04.size)
      have cP:=CP2.out W5 h05
      go_wp2_with fail
      refine cP.mono ?_
      rintro e W6 ⟨v6,rfl,o6,hb6⟩
      clear cP CP2
      have h06:Below W0.heap.size W0 W6:=h05.trans (hb6.mono h05.size)
      obtain ⟨a5,c5,rfl, -, -⟩:=z6a o5
      obtain ⟨a6,c6,rfl, -, -⟩:=z6a o6
      have cK:=z9F d k (by have:=HA.out;omega) a5 a6 np c5 c6 (by have:=HP.out.2;omega) PL W6 ((z2G o5 HP.out.1).below hb6) (z2G o6 HP.out.1) (L0.out W6 h06).2.2.2.2.2.1
      clear o5 o6 hb5 hb6 h04 h05
      go_wp2_with fail
      refine cK.mono ?_
      rintro e W7 ⟨rfl,hb7⟩
      clear cK
      go_upto_region 24 with fail
      obtain ⟨W8,hW8⟩:∃ x,W7.alloc (.cells #[.slice none 0 0,.slice none 0 0] 46)=x:=⟨_,rfl⟩
      rw [hW8]
      have h08:Below W0.heap.size W0 W8:=by
        have h7:Below W0.heap.size W0 W7:=h06.trans (hb7.mono h06.size)
        rw [← hW8]
        exact h7.alloc h7.size _
      have ca:=HX.zcQ W8 (L0.out W8 h08).2.2.2.2.2.1
      have HB8:Aside (Below w.heap.size w W8):=(L0.out W8 h08).1
      clear hW8 hb7 h06 h08 L0 HA HP HQ
      go_wp2_with fail
      refine ca.mono ?_
      rintro e w9 ⟨rfl,hb9⟩
      clear ca
      go_wp2
      go_ret
      exact ⟨rfl,HB8.out.trans (hb9.mono HB8.out.size)⟩
    | succ r=>
      have hin:j<n:=by have:=A.out.1;omega
      have hlt:(j:Int)<(n:Int):=by omega
      have hi0:¬ (j:Int)<0:=by omega
      have hrg:wr.rangeAt lb (lo+j*32) (HX.z05 .u8 32 (hs j)):=(HT.out wr A.out.2.2).2.2.2.2 j hin
      have cA:=HX.zd9 A.out.2.1 (hs j) (HA.out.2.2.2.2 j hin) (by have:=HA.out.1;omega) (HT.out wr A.out.2.2).2.1 (HT.out w (Below.refl _ _)).2.1.2.2 A.out.2.2.size
      have ei:wrap64 ((j:Int)+1)=((j+1:Nat):Int):=by have:=HA.out.1;unfold wrap64;omega
      have A3:Aside (j+1+r=n):=by have:=A.out.1;show j+1+r=n;clear ei;omega
      clear hin
      go_wp2_with (refine wpList_load_mid rfl 30 (.tmp 77) rfl lb (lo+j*32) rfl (HX.z05 .u8 32 (hs j)) _ hrg Tryz.underlying30 rfl (by rw [HX.z0d];exact HX.z0q) ?_;rw [← HX.z0I])
      refine cA.mono ?_
      rintro e w3 ⟨rfl,C',a1,a2,a3⟩
      have A4:Aside (HX.FOREST w3 w.heap.size g d 3 (j+1) C' hs∧Below w.heap.size w w3):=by
        refine ⟨a1.congr fun x hx=>?_,A.out.2.2.trans a3⟩
        unfold HX.z0D
        split
        · rename_i e;rw [e]
        · rfl
      clear cA hrg a1 a2 a3 A
      go_wp2_with fail
      go_roundg r
      case measure=>exact Nat.lt_succ_self _
      case rel=>exact ⟨j+1,C',by first | rfl | (rw [ei]),A3.out,A4.out⟩
theorem z5e (d:Int) (a:Option Addr) (n c i m k:Nat) (hs:Nat→Nat→Nat) (w:World) (hH:HX.HASHES w a n hs) (h8:∀ i,i<n→∀ j,hs i j<256) (hT:Tabled w) (hX:HX.Tabled w) (h0:2<w.heap.size):Calls Tryz.prog 3 #[.int .i64 d,.slice a n c,.int .u64 (i:Int),.int .u64 (m:Int),.int .u64 (k:Int)] w fun e w'=>e=.returned (.bool true)∧Below w.heap.size w w':=by
  by_cases hn:(100:Int)<(n:Int)
  · exact z9b d a n c i m k w hn
  · by_cases hk:n<k
    · exact z9S d a n c i m k w hn hk
    · by_cases hm:k<m
      · exact z9c d a n c i m k w hn (by omega) hm
      · by_cases hi:m≤i
        · exact z9T d a n c i m k w hn (by omega) (by omega) hi
        · exact z9d d a n c i m k hs w hn (by omega) (by omega) (by omega) hH h8 hT hX h0
end Go.Proofs.YtbeelmlpalkohaaGreatDoor

namespace Go.Proofs.YtbeelmlpalkohaaGreatDoor
open Go.ChangeShapes Go.WideShapes Go.ChangeAt Go.WideMaps Go.WideElems Go.RowKit
set_option maxRecDepth 100000
theorem own:ownKnob Tryz.prog.godebug=none:=by kernel_rfl
theorem zaH:laidOutB Tryz.prog=true:=by kernel_rfl
theorem gTab:Tryz.prog.globalNamed "math/bits.deBruijn64tab"=some 2:=by kernel_rfl
theorem tTab:(Tryz.prog.globals[2]?).map (·.type)=some 164:=by kernel_rfl
theorem zhh {H:Type}:(Rows.laid_math_bits_deBruijn64tab:DataW H)=.agg (TAB.map fun n=>.lit (.int .u8 (n:Nat))):=rfl
end Go.Proofs.YtbeelmlpalkohaaGreatDoor

namespace Go.Proofs.YtbeelmlpalkohaaGreatDoor.HX
set_option maxRecDepth 100000
open Go.ChangeShapes Go.WideShapes Go.ChangeAt Go.WideMaps Go.WideElems Go.RowKit
theorem own:ownKnob Tryz.prog.godebug=none:=by kernel_rfl
theorem zaH:laidOutB Tryz.prog=true:=by kernel_rfl
theorem gRounds:Tryz.prog.globalNamed "massif/hash.rounds"=some 1:=by kernel_rfl
theorem gBegin:Tryz.prog.globalNamed "massif/hash.begin"=some 0:=by kernel_rfl
theorem tRounds:(Tryz.prog.globals[1]?).map (·.type)=some 189:=by kernel_rfl
theorem tBegin:(Tryz.prog.globals[0]?).map (·.type)=some 187:=by kernel_rfl
theorem zbN {H:Type}:(Rows.laid_massif_hash_rounds:DataW H)=.agg (KLIST.map fun n=>.lit (.int .u32 (n:Nat))):=rfl
theorem zda {H:Type}:(Rows.laid_massif_hash_begin:DataW H)=.agg (BEGIN.map fun n=>.lit (.int .u32 (n:Nat))):=rfl
theorem z9e {H:Type} {enc:TypeId × Value→H} {W:World} {base fuel n:Nat} {sp:Nat→Bool} {held:Bool} {t:TypeId} {cs:List Value} {ps:List MemPlace} (L:List Nat) (hL:L.length=n) (ht:Tryz.prog.underlying t=some (.array n 186))
    (hd:DataW.trod enc Tryz.prog W base sp held fuel t cs=some (.agg (L.map fun n=>.lit (.int .u32 (n:Nat))),ps)) (i:Nat) (hi:i<n):cs[i]?=some (.int .u32 (L.getD i 0:Nat)):=by
  obtain ⟨xs,m1,rfl,hx1,hlen,hn,hel⟩:=DataW.trod_array ht hd
  have c5:Tryz.prog.cellsOf 186=1:=by kernel_rfl
  simp only [Prod.mk.injEq,DataW.agg.injEq] at hx1
  have hx:=hx1.1
  have h0:=hel i hi
  have hi':i<xs.length:=by omega
  rw [List.getElem?_eq_getElem hi',c5,Nat.mul_one] at h0
  obtain ⟨k,e1,e2,_⟩:=DataW.trod_int Tryz.underlying186 h0
  have hk:(k:Int)=((L.getD i 0:Nat):Int):=by
    have hz:=congrArg (fun l=>l[i]?) hx
    have hT:i<L.length:=by omega
    simp only [List.getElem?_map,List.getElem?_eq_getElem hi',List.getElem?_eq_getElem hT,Option.map_some,e2] at hz
    simp at hz
    rw [List.getD_eq_getElem?_getD,List.getElem?_eq_getElem hT]
    simpa using hz.symm
  rw [← hk]
  have:=congrArg (fun l=>l[0]?) e1
  simpa using this
end Go.Proofs.YtbeelmlpalkohaaGreatDoor.HX

namespace Go.Proofs.YtbeelmlpalkohaaGreatDoor.HX
open Go.ChangeShapes Go.WideShapes Go.ChangeAt Go.WideMaps Go.WideElems Go.RowKit
set_option maxRecDepth 100000
theorem zeo {W:World} (h:laidMetH Tryz.prog [("math/bits.deBruijn64tab",Rows.laid_math_bits_deBruijn64tab),("massif/hash.begin",Rows.laid_massif_hash_begin),("massif/hash.rounds",Rows.laid_massif_hash_rounds)] W):Go.Proofs.YtbeelmlpalkohaaGreatDoor.Tabled W∧Tabled W∧2<W.heap.size:=by
  rw [MakeChecks.laidMetH_plain _ _ _ (by kernel_rfl)] at h
  obtain ⟨ps,⟨g0,t0,cs0,f0,p0,q0,hg0,ht0,hv0,hd0,⟨g1,t1,cs1,f1,p1,q1,hg1,ht1,hv1,hd1,⟨g2,t2,cs2,f2,p2,q2,hg2,ht2,hv2,hd2,_,_⟩,_⟩,_⟩,_,_⟩:=h
  obtain rfl:=Option.some.inj (gTab.symm.trans hg0)
  obtain rfl:=Option.some.inj (tTab.symm.trans ht0)
  obtain rfl:=Option.some.inj (gBegin.symm.trans hg1)
  obtain rfl:=Option.some.inj (tBegin.symm.trans ht1)
  obtain rfl:=Option.some.inj (gRounds.symm.trans hg2)
  obtain rfl:=Option.some.inj (tRounds.symm.trans ht2)
  rw [zda] at hd1
  rw [zbN] at hd2
  have A:∀ i,i<8→W.cell? ⟨0,i,none⟩=some (.int .u32 (BEGIN.getD i 0:Nat)):=fun i hi=>(World.var?_cell hg1 hv1 i).trans (Array.getElem?_toList.symm.trans (z9e BEGIN rfl Tryz.underlying187 hd1 i hi))
  have B:∀ i,i<64→W.cell? ⟨1,i,none⟩=some (.int .u32 (KC i:Nat)):=fun i hi=>(World.var?_cell hg2 hv2 i).trans (Array.getElem?_toList.symm.trans (z9e KLIST rfl Tryz.underlying189 hd2 i hi))
  obtain ⟨xs,m1,rfl,hx1,hlen,hn,hel⟩:=DataW.trod_array Tryz.underlying164 hd0
  have c5:Tryz.prog.cellsOf 5=1:=by kernel_rfl
  simp only [Prod.mk.injEq] at hx1
  have hx:=hx1.1
  rw [zhh] at hx
  simp only [DataW.agg.injEq] at hx
  have T:Go.Proofs.YtbeelmlpalkohaaGreatDoor.Tabled W:=fun i hi=>by
    have h0:=hel i hi
    have hi':i<xs.length:=by omega
    rw [List.getElem?_eq_getElem hi',c5,Nat.mul_one] at h0
    obtain ⟨k,e1,e2,_⟩:=DataW.trod_int Tryz.underlying5 h0
    have hk:(k:Int)=((TAB.getD i 0:Nat):Int):=by
      have hz:=congrArg (fun l=>l[i]?) hx
      have hT:i<TAB.length:=hi
      simp only [List.getElem?_map,List.getElem?_eq_getElem hi',List.getElem?_eq_getElem hT,Option.map_some,e2] at hz
      simp at hz
      rw [List.getD_eq_getElem?_getD,List.getElem?_eq_getElem hT]
      simpa using hz.symm
    have hv:=World.var?_cell hg0 hv0 i
    rw [hv,← hk]
    have:=congrArg (fun l=>l[0]?) e1
    simp at this
    simpa using this
  have z0:2<W.heap.size:=World.block_lt_of_cell? W _ (T 0 (by decide))
  have z1:0<W.heap.size:=World.block_lt_of_cell? W _ (A 0 (by decide))
  have z2:1<W.heap.size:=World.block_lt_of_cell? W _ (B 0 (by decide))
  exact ⟨T,⟨B,A,by omega⟩,by omega⟩
theorem zdb {H:Type} {enc:TypeId × Value→H} {W:World} {fuel:Nat} {cs:List Value} {x:DataW H × List MemPlace} (hf:DataW.trod enc Tryz.prog W 0 (fun _=>true) true fuel 30 cs=some x):∃ h:Nat→Nat,(∀ i,h i<256)∧cs=z05 .u8 32 h:=by
  obtain ⟨xs,m,rfl,_,hl,hn,hel⟩:=DataW.trod_array Tryz.underlying30 hf
  have c5:Tryz.prog.cellsOf 5=1:=by kernel_rfl
  have c32:Tryz.prog.cellsOf 30=32:=by kernel_rfl
  rw [c32] at hl
  have hx:∀ i,i<32→∃ k:Nat,cs[i]?=some (.int .u8 (k:Int))∧k<256:=fun i hi=>by
    have h0:=hel i hi
    rw [List.getElem?_eq_getElem (by omega),c5,Nat.mul_one] at h0
    obtain ⟨k,e1,_,e3⟩:=DataW.trod_int Tryz.underlying5 h0
    have hb:=bounds_u8 e3
    refine ⟨k.toNat,?_,by omega⟩
    have:=congrArg (fun l=>l[0]?) e1
    rw [Int.toNat_of_nonneg hb.1]
    simpa using this
  have F:∃ f:Nat→Nat,(∀ i,f i<256)∧∀ i,i<32→cs[i]?=some (.int .u8 ((f i:Nat):Int)):=by
    refine ⟨fun i=>if hi:i<32 then (hx i hi).choose else 0,fun i=>?_,fun i hi=>?_⟩
    · by_cases hi:i<32
      · simp only [hi,dif_pos];exact (hx i hi).choose_spec.2
      · simp only [hi,dif_neg,not_false_iff];decide
    · simp only [hi,dif_pos];exact (hx i hi).choose_spec.1
  obtain ⟨f,hf1,hf2⟩:=F
  refine ⟨f,hf1,?_⟩
  apply List.ext_getElem?
  intro i
  by_cases hi:i<32
  · rw [hf2 i hi,z0Q _ _ _ _ hi]
  · rw [List.getElem?_eq_none (by omega),List.getElem?_eq_none (by rw [z0d];omega)]
theorem z9U {H:Type} {enc:TypeId × Value→H} {W:World} {a:Option Addr} {k c:Nat} {d:DataW H} {ps:List MemPlace} (hd:DataW.Trod enc Tryz.prog W 0 (fun _=>true) true 22 (.slice a k c) d ps):
    ∃ hs:Nat→Nat→Nat,(∀ i,i<k→∀ j,hs i j<256)∧HASHES W a k hs:=by
  obtain ⟨fuel,hf⟩:=hd
  rcases DataW.trod_slice Tryz.underlying22 hf with ⟨h0,_⟩ | ⟨ad,len,cap,elems,rest,n,_,h0,hx,_,hl,hm,hlen,hel,_,_⟩
  · simp [Value.cells] at h0
    obtain ⟨rfl,rfl,rfl⟩:=h0
    exact ⟨fun _ _=>0,fun i hi=>by omega,fun h=>by omega⟩
  · simp [Value.cells] at h0
    obtain ⟨rfl,rfl,rfl⟩:=h0
    have c32:Tryz.prog.cellsOf 30=32:=by kernel_rfl
    have each:∀ i,i<k→∃ h:Nat→Nat,(∀ j,h j<256)∧∀ j,j<32→W.cell? ((ad.add (i*32)).add j)=some (.int .u8 ((h j:Nat):Int)):=fun i hi=>by
      have h:=hel i hi
      rw [List.getElem?_eq_getElem (by omega),c32,Option.bind_eq_some_iff] at h
      obtain ⟨cs,hcs,ht⟩:=h
      obtain ⟨f,h1,rfl⟩:=zdb ht
      have hs:=(World.cells?_some hcs).2.2
      refine ⟨f,h1,fun j hj=>?_⟩
      have s:=hs j hj
      rw [s]
      exact z0Q .u8 32 f j hj
    have F:∃ f:Nat→Nat→Nat,∀ i,i<k→(∀ j,f i j<256)∧∀ j,j<32→W.cell? ((ad.add (i*32)).add j)=some (.int .u8 ((f i j:Nat):Int)):=by
      refine ⟨fun i=>if hi:i<k then (each i hi).choose else fun _=>0,fun i hi=>?_⟩
      simp only [hi,dif_pos]
      exact (each i hi).choose_spec
    obtain ⟨f,hf2⟩:=F
    refine ⟨f,fun i hi=>(hf2 i hi).1,fun h0k=>?_⟩
    obtain ⟨b,off,spot⟩:=ad
    have hc:=(hf2 0 h0k).2 0 (by decide)
    have hspot:spot=none:=by simpa [Addr.add] using World.cell?_spot hc
    subst hspot
    refine ⟨b,off,rfl,?_,fun i hi j v hv=>?_⟩
    · have:=World.block_lt_of_cell? W _ hc
      simpa [Addr.add] using this
    · have hj:j<32:=by have:=(List.getElem?_eq_some_iff.1 hv).1;rw [z0d] at this;exact this
      have h1:=(hf2 i hi).2 j hj
      rw [z1k,z1k] at h1
      rw [z0Q _ _ _ _ hj] at hv
      rw [h1,← hv]
end Go.Proofs.YtbeelmlpalkohaaGreatDoor.HX
