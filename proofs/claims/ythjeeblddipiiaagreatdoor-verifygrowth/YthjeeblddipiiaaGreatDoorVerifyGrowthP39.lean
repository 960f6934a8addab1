/- Texts of VerifyGrowth, one behind the other: VerifyGrowthWalk, PosDoor, HashDoor, MmrDoor, MmrDoorMore. -/
import Derived.Test.YthjeeblddipiiaaGreatDoorRows
import Derived.ProofKit
import Derived.LaidMore
import Derived.OpenShut
import Derived.Stop.Joined
import Derived.Test.YthjeeblddipiiaaGreatDoorVerifyGrowthP6
import Derived.Test.YthjeeblddipiiaaGreatDoorVerifyGrowthP13
import Derived.Test.YthjeeblddipiiaaGreatDoorVerifyGrowthP36
import Derived.Test.YthjeeblddipiiaaGreatDoorVerifyGrowthP37
import Derived.Test.YthjeeblddipiiaaGreatDoorVerifyGrowthP38
namespace Go.Proofs.YthjeeblddipiiaaGreatDoor
open Go.RowKit
set_option maxRecDepth 100000
theorem z9x (d:Int) (a:Option Addr) (n c m k:Nat) (w:World) (hn:(300:Int)<(n:Int)):Calls Tryz.prog 4 #[.int .i64 d,.slice a n c,.int .u64 (m:Int),.int .u64 (k:Int)] w fun e w'=>e=.returned (.bool true)∧Below w.heap.size w w':=by
  go_enter Tryz.func4,Tryz.ntmps4
  go_wp2
  go_ret
  exact ⟨rfl,Below.refl _ _⟩
theorem zbK (d:Int) (a:Option Addr) (n c m k:Nat) (w:World) (hn:¬ (300:Int)<(n:Int)) (hk:n<k):Calls Tryz.prog 4 #[.int .i64 d,.slice a n c,.int .u64 (m:Int),.int .u64 (k:Int)] w fun e w'=>e=.returned (.bool true)∧Below w.heap.size w w':=by
  have hu:=HX.z4f (n:=n) (by omega)
  have hm':(n:Int)<(k:Int):=by omega
  go_enter Tryz.func4,Tryz.ntmps4
  go_wp2
  go_ret
  exact ⟨rfl,Below.refl _ _⟩
theorem zbL (d:Int) (a:Option Addr) (n c m k:Nat) (w:World) (hn:¬ (300:Int)<(n:Int)) (hk:k≤n) (hm:k<m):Calls Tryz.prog 4 #[.int .i64 d,.slice a n c,.int .u64 (m:Int),.int .u64 (k:Int)] w fun e w'=>e=.returned (.bool true)∧Below w.heap.size w w':=by
  have hu:=HX.z4f (n:=n) (by omega)
  have hm':¬ (n:Int)<(k:Int):=by omega
  have hi':(k:Int)<(m:Int):=by omega
  go_enter Tryz.func4,Tryz.ntmps4
  go_wp2
  go_ret
  exact ⟨rfl,Below.refl _ _⟩
theorem z7s (a:Option Addr) (r c k:Nat) (hk:k≤c) (w:World):(Instr.slice 22 (.slice a r c) none (some (.int .u64 (k:Int))) none).run Tryz.prog w=.ok (.slice a k c) w:=by
  obtain ⟨i8,hi,h8⟩:=Option.map_eq_some_iff.1 z2g
  simp only [Prod.mk.injEq] at h8
  have he:Tryz.prog.elem 22=32:=by kernel_rfl
  have hu:Tryz.prog.underlying 22=some (.slice (Tryz.prog.elem 22)):=by kernel_rfl
  rw [run_slice_h (P:=Tryz.prog) w 22 a r c hu .u64 (k:Int) (by omega) (by omega),he]
  cases a <;> simp [sizeOf,typeInfo,hi,h8.2.1,sliced,Addr.add]
theorem zdy {w:World} {a:Option Addr} {n m:Nat} {hs:Nat→Nat→Nat} (h:HX.HASHES w a n hs) (hm:m≤n):HX.HASHES w a m hs:=fun h0=>by
  obtain ⟨b,o,e,hb,hc⟩:=h (by omega)
  exact ⟨b,o,e,hb,fun i hi=>hc i (by omega)⟩
set_option maxHeartbeats 4000000 in
theorem z9y (d:Int) (a:Option Addr) (n c m k:Nat) (hs:Nat→Nat→Nat) (w:World) (hn:¬ (300:Int)<(n:Int)) (hkn:k≤n) (hmk:m≤k) (hnc:n≤c) (hH:HX.HASHES w a n hs) (h8:∀ i,i<n→∀ j,hs i j<256) (hT:Tabled w) (hX:HX.Tabled w) (h0:2<w.heap.size):Calls Tryz.prog 4 #[.int .i64 d,.slice a n c,.int .u64 (m:Int),.int .u64 (k:Int)] w fun e w'=>e=.returned (.bool true)∧Below w.heap.size w w':=by
  have hu:=HX.z4f (n:=n) (by omega)
  have hk1:¬ (n:Int)<(k:Int):=by omega
  have hm1:¬ (k:Int)<(m:Int):=by omega
  have cO:=HX.zdj d a n c hs w (by omega) hH h8 hX
  have HT:Aside (∀ W,Below w.heap.size w W→Tabled W∧HX.Tabled W∧0<W.heap.size∧2<W.heap.size∧HX.HASHES W a n hs):=fun W h=>by
    have hz:=h.size
    exact ⟨hT.below (by omega) h,hX.below h,by omega,by omega,hH.below h⟩
  have HA:Aside (n≤300∧k≤n∧m≤k∧(∀ i,i<n→∀ j,hs i j<256)∧n≤c):=⟨by omega,hkn,hmk,h8,hnc⟩
  have hcm:((m:Int) == (k:Int))=decide (m=k):=by
    by_cases e:m=k
    · simp [e]
    · rw [decide_eq_false e]
      exact beq_eq_false_iff_ne.2 (by omega)
  have HCM:Aside (((m:Int) == (k:Int))=decide (m=k)):=hcm
  clear hH h8 hT hX h0 hcm hkn hmk hnc
  go_enter Tryz.func4,Tryz.ntmps4
  go_wp2_with fail
  refine cO.mono ?_
  rintro e w1 ⟨g,C,rfl,hF,hb1, -⟩
  clear cO
  have R1:Aside (HX.FOREST w1 w.heap.size g d 3 n C hs∧Below w.heap.size w w1):=⟨hF,hb1⟩
  have cM:=z6D hF m k HA.out.2.2.1 HA.out.2.1 (by have:=HA.out.1;omega) (HT.out _ hb1).1 (HT.out _ hb1).2.2.1
  clear hF hb1
  go_wp2_with fail
  refine cM.mono ?_
  rintro e w2 ⟨a2,c2,rfl,o2,hb2⟩
  clear cM
  obtain ⟨q,hq⟩:∃ q,(PXS m k).length=q:=⟨_,rfl⟩
  obtain ⟨l,hl⟩:∃ l,CAT (TVAL d hs) (PXS m k)=l:=⟨_,rfl⟩
  rw [hq,hl] at o2
  rw [hq]
  obtain ⟨w3,hw3⟩:∃ w3,w2.alloc (.cells #[.int .u64 (m:Int),.int .u64 (k:Int),.slice a2 q c2] 47)=w3:=⟨_,rfl⟩
  obtain ⟨bp,hbp⟩:∃ bp,w2.heap.size=bp:=⟨_,rfl⟩
  have hb3:Below w2.heap.size w2 w3:=by rw [← hw3];exact (Below.refl _ _).alloc (Nat.le_refl _) _
  have hP3:Has w3 bp #[.int .u64 (m:Int),.int .u64 (k:Int),.slice a2 q c2] 47:=by rw [← hw3,← hbp];exact Has.new _ _ _
  have h300:=HA.out.1
  have hkn:=HA.out.2.1
  have hmk:=HA.out.2.2.1
  have hlr:∀ x∈l,0≤x∧x≤255:=by rw [← hl];exact z4e d hs n HA.out.2.2.2.1 _ (zag hmk hkn (by omega))
  have hll:l.length=32*q:=by rw [← hl,← hq];exact z2A _ _ _
  have hq188:q≤188:=by rw [← hq];exact z3V hmk (by omega)
  have hbw3:Below w.heap.size w w3:=R1.out.2.trans ((hb2.trans (hb3.mono hb2.size)).mono R1.out.2.size)
  have hf3:Flat w3 a2 q l:=(z19 o2 hlr).below hb3
  have iA:IsH (LST (HX.z0Y d hs m)):=z3F fun j=>HX.z8K _ _ _ j
  have iB:IsH (LST (HX.z0Y d hs k)):=z3F fun j=>HX.z8K _ _ _ j
  have hFo3:HX.FOREST w3 w.heap.size g d 3 n C hs:=R1.out.1.below (hb2.trans (hb3.mono hb2.size))
  have cR:=HX.zdi hFo3 m (by omega) (HT.out _ hbw3).1 (HT.out _ hbw3).2.1
  rw [z1B] at cR
  have cR2:Aside (∀ W,Below w3.heap.size w3 W→Calls Tryz.prog 8 #[.pointer (some ⟨g,0,none⟩),.int .u64 (k:Int)] W fun e w'=>e=.returned (.tuple #[.agg (z00 (LST (HX.z0Y d hs k))).toArray,.int .i64 0])∧Below W.heap.size W w'):=fun W h=>by
    have hw:=hbw3.trans (h.mono hbw3.size)
    have:=HX.zdi (hFo3.below h) k hkn (HT.out _ hw).1 (HT.out _ hw).2.1
    rw [z1B] at this
    exact this
  obtain ⟨t,hLt,hJ⟩:=zds m k (by omega)
  have B1:Aside (ENX m k q l=(0,PRX m k l)∧PFXA d (JSX m k t) m (LST (HX.z0Y d hs m)) k (LST (HX.z0Y d hs k)) (PRX m k l)=0∧(∀ r1 r2,PFXA d (JSX m k t) m r1 (k+1) r2 (PRX m k l)=30)∧RCA d (JSX m k t) m k q l=(0,(PC m,CAT (TVAL d hs) (SPAN 0 m)),(PC k,CAT (TVAL d hs) (SPAN 0 k)))∧3≤(PRX m k l).length∧(PRX m k l).length≤10000∧(∀ x∈PRX m k l,0≤x∧x≤255)∧PC m≤64∧PC k≤64∧(∀ x∈CAT (TVAL d hs) (SPAN 0 m),0≤x∧x≤255)∧(∀ x∈CAT (TVAL d hs) (SPAN 0 k),0≤x∧x≤255)∧((DEX (PRX m k l)).2.1≤(DEX (PRX m k l)).2.2.1→(DEX (PRX m k l)).2.2.1≤4611686018427387904→JSOK (DEX (PRX m k l)).2.1 ((DEX (PRX m k l)).2.2.1 - (DEX (PRX m k l)).2.1) (JSX m k t))∧HX.HL (HX.PKV d hs m)=z00 (CAT (TVAL d hs) (SPAN 0 m))∧HX.HL (HX.PKV d hs k)=z00 (CAT (TVAL d hs) (SPAN 0 k))):=by
    have hin:∀ j,j≤n→INN (SPAN 0 j) n:=fun j hj s hs=>by
      have:=((z1d (a:=0) (b:=j) (by omega) (Nat.zero_le j)).within _ hs).2.1
      omega
    refine ⟨by rw [← hq];exact zgj hmk (by omega) l,by rw [← hl];exact zdw d hs hmk (by omega) hLt,fun r1 r2=>zdx d _ r1 r2 hmk (by omega) (by rw [hq];exact hll) (by omega),by rw [← hq,← hl];exact z8Q d hs hmk (by omega) hLt,?_,?_,zdv (by omega) (by omega) hlr,z1c 64 m (by omega),z1c 64 k (by omega),z4e d hs n HA.out.2.2.2.1 _ (hin m (by omega)),z4e d hs n HA.out.2.2.2.1 _ (hin k hkn),?_,zah d hs (by omega),zah d hs (by omega)⟩
    · unfold PRX
      simp only [List.length_cons,List.length_append,z0H]
      omega
    · unfold PRX
      have h1:=z3D m
      have h2:=z3D k
      simp only [List.length_cons,List.length_append,z0H,hll]
      omega
    · rw [z6I hmk (by omega) (by rw [hq];exact hll)]
      exact hJ
  have HJ:Aside (m≤k→k≤4611686018427387904→JSOK m (k - m) (JSX m k t)):=hJ
  have R3:Aside (HX.FOREST w3 w.heap.size g d 3 n C hs∧Below w.heap.size w w3∧Has w3 bp #[.int .u64 (m:Int),.int .u64 (k:Int),.slice a2 q c2] 47∧Flat w3 a2 q l∧q≤188∧(m=k→CAT (TVAL d hs) (SPAN 0 m)=CAT (TVAL d hs) (SPAN 0 k))):=⟨hFo3,hbw3,hP3,hf3,hq188,fun e=>by rw [e]⟩
  generalize PRX m k l=bl at *
  generalize LST (HX.z0Y d hs m)=A at *
  generalize LST (HX.z0Y d hs k)=B at *
  generalize CAT (TVAL d hs) (SPAN 0 m)=PA at *
  generalize CAT (TVAL d hs) (SPAN 0 k)=PB at *
  have lA:=iA.1
  have lB:=iB.1
  have HI:Aside (IsH A∧IsH B):=⟨iA,iB⟩
  rw [hbp] at hb3
  clear hq hl o2 hlr hll hq188 hbw3 hf3 hb2 hb3 R1 hFo3 iA iB h300 hkn hmk hLt hJ
  go_upto_region 7 with fail
  clear hw3 hP3 hbp
  go_wp2_with fail
  refine cR.mono ?_
  rintro e w4 ⟨rfl,hb4⟩
  clear cR
  go_upto_region 8 with (first
    | (refine wpList_store_row rfl 32 (.tmp 12) (.tmp 55) rfl _ _ rfl rfl 32 _ (Has.new w4 _ _) (z08 lA) (by simp [z00,lA]) (z0l A) ?_;rw [World.setRow_alloc_new])
    | fail)
  obtain ⟨w5,hw5⟩:∃ w5,w4.alloc (.cells (z00 A).toArray 32)=w5:=⟨_,rfl⟩
  obtain ⟨ba,hba⟩:∃ ba,w4.heap.size=ba:=⟨_,rfl⟩
  rw [hw5,hba]
  have hb5:Below w3.heap.size w3 w5:=by rw [← hw5];exact hb4.alloc hb4.size _
  have kA5:Has w5 ba (z00 A).toArray 32:=by rw [← hw5,← hba];exact Has.new _ _ _
  have cR:=cR2.out w5 hb5
  have R5:Aside (Below w3.heap.size w3 w5∧Has w5 ba (z00 A).toArray 32):=⟨hb5,kA5⟩
  clear hw5 hba hb5 kA5 cR2 hb4
  go_wp2_with fail
  refine cR.mono ?_
  rintro e w6 ⟨rfl,hb6⟩
  clear cR
  go_upto_region 9 with (first
    | (refine wpList_store_row rfl 32 (.tmp 14) (.tmp 61) rfl _ _ rfl rfl 32 _ (Has.new w6 _ _) (z08 lB) (by simp [z00,lB]) (z0l B) ?_;rw [World.setRow_alloc_new])
    | fail)
  obtain ⟨w7,hw7⟩:∃ w7,w6.alloc (.cells (z00 B).toArray 32)=w7:=⟨_,rfl⟩
  obtain ⟨bb,hbb⟩:∃ bb,w6.heap.size=bb:=⟨_,rfl⟩
  rw [hw7,hbb]
  have hb7:Below w5.heap.size w5 w7:=by rw [← hw7];exact hb6.alloc hb6.size _
  have kB7:Has w7 bb (z00 B).toArray 32:=by rw [← hw7,← hbb];exact Has.new _ _ _
  have hb37:Below w3.heap.size w3 w7:=R5.out.1.trans (hb7.mono R5.out.1.size)
  have hbw7:Below w.heap.size w w7:=R3.out.2.1.trans (hb37.mono R3.out.2.1.size)
  have hP7:=R3.out.2.2.1.keep hb37
  have x0:w7.cell? ⟨bp,0,none⟩=some (.int .u64 (m:Int)):=hP7.cell 0
  have x1:w7.cell? ⟨bp,1,none⟩=some (.int .u64 (k:Int)):=hP7.cell 1
  have x2:w7.cell? ⟨bp,2,none⟩=some (.slice a2 q c2):=hP7.cell 2
  have cE:=z5B m k (by have:=HA.out;omega) (by have:=HA.out;omega) a2 q c2 (by have:=R3.out.2.2.2.2.1;omega) l w7 (R3.out.2.2.2.1.below hb37) (HT.out _ hbw7).1 (HT.out _ hbw7).2.2.1
  rw [B1.out.1] at cE
  have R7:Aside (Below w3.heap.size w3 w7∧Has w7 ba (z00 A).toArray 32∧Has w7 bb (z00 B).toArray 32):=⟨hb37,R5.out.2.keep hb7,kB7⟩
  clear hw7 hbb hb7 kB7 hb37 hbw7 hP7 R5 hb6
  go_wp2_with fail
  refine cE.mono ?_
  rintro e W0 ⟨v,rfl,o8,hb8⟩
  clear cE x0 x1 x2
  (try dsimp only at o8)
  obtain ⟨bn,hbn⟩:∃ bn,bl.length=bn:=⟨_,rfl⟩
  rw [hbn] at o8
  obtain ⟨ad,bc,rfl,hbc,hgb⟩:=z2P o8
  obtain ⟨gb,rfl, -, -⟩:=hgb (by have:=B1.out.2.2.2.2.1;omega)
  clear hgb
  have hB0:Bytes W0 (some ⟨gb,0,none⟩) bn bl:=(z1k o8 B1.out.2.2.2.2.2.2.1).1
  have L0:Aside (∀ W,Below W0.heap.size W0 W→Below w.heap.size w W∧Has W ba (z00 A).toArray 32∧Has W bb (z00 B).toArray 32∧Bytes W (some ⟨gb,0,none⟩) bn bl∧Tabled W∧HX.Tabled W∧2<W.heap.size∧Has W bp #[.int .u64 (m:Int),.int .u64 (k:Int),.slice a2 q c2] 47∧Flat W a2 q l∧HX.HASHES W a n hs):=fun W h=>by
    have h7:Below w7.heap.size w7 W:=hb8.trans (h.mono hb8.size)
    have h3:Below w3.heap.size w3 W:=R7.out.1.trans (h7.mono R7.out.1.size)
    have h1:Below w.heap.size w W:=R3.out.2.1.trans (h3.mono R3.out.2.1.size)
    have h2:=HT.out W h1
    exact ⟨h1,R7.out.2.1.keep h7,R7.out.2.2.keep h7,hB0.below h,h2.1,h2.2.1,h2.2.2.2.1,R3.out.2.2.1.keep h3,R3.out.2.2.2.1.below h3,h2.2.2.2.2⟩
  have HK:Aside (q≤188∧bn≤bc∧bn≤10000∧(m=k→PA=PB)):=⟨R3.out.2.2.2.2.1,hbc,by rw [← hbn];exact B1.out.2.2.2.2.2.1,R3.out.2.2.2.2.2⟩
  clear hB0 o8 hb8 hbc R3 R7 HT hbn
  have cp:∀ (N:Nat) (E:Int),N<2 ^ 64→PFXA d (JSX m k t) m A N B bl=E→∀ W,Below W0.heap.size W0 W→Calls Tryz.prog 18 #[.int .i64 d,.int .u64 (m:Int),.agg (z00 A).toArray,.int .u64 (N:Int),.agg (z00 B).toArray,.slice (some ⟨gb,0,none⟩) bn bc] W fun e w'=>e=.returned (.int .i64 E)∧Below W0.heap.size W0 w':=fun N E hN hE W h=>by
    have hL:=L0.out W h
    refine (zcW d m (by have:=HA.out;omega) A HI.out.1 N hN B HI.out.2 _ bn bc (by have:=HK.out;omega) HK.out.2.1 bl (JSX m k t) B1.out.2.2.2.2.2.2.2.2.2.2.2.1 W hL.2.2.2.1 hL.2.2.2.2.1 hL.2.2.2.2.2.1 hL.2.2.2.2.2.2.1).mono ?_
    rintro e w' ⟨rfl,hb⟩
    exact ⟨by rw [hE],h.trans (hb.mono h.size)⟩
  have c0:=cp k 0 (by have:=HA.out;omega) B1.out.2.1 W0 (Below.refl _ _)
  have C30:Aside (∀ W,Below W0.heap.size W0 W→Calls Tryz.prog 18 #[.int .i64 d,.int .u64 (m:Int),.agg (z00 A).toArray,.int .u64 ((k+1:Nat):Int),.agg (z00 B).toArray,.slice (some ⟨gb,0,none⟩) bn bc] W fun e w'=>e=.returned (.int .i64 30)∧Below W0.heap.size W0 w'):=cp (k+1) 30 (by have:=HA.out;omega) (B1.out.2.2.1 A B)
  clear cp
  have kA:=(L0.out W0 (Below.refl _ _)).2.1
  have kB:=(L0.out W0 (Below.refl _ _)).2.2.1
  go_wp2_with (first
    | (refine z1E (by rfl) 32 (.tmp 12) rfl 32 5 ba rfl 32 (z00 A).toArray (0,0) kA Tryz.underlying32 (z08 lA) ?_)
    | (refine z1E (by rfl) 32 (.tmp 14) rfl 32 5 bb rfl 32 (z00 B).toArray (0,0) kB Tryz.underlying32 (z08 lB) ?_)
    | fail)
  refine c0.mono ?_
  rintro e W1 ⟨rfl,hW1⟩
  clear c0 kA kB
  have hP1:=(L0.out W1 hW1).2.2.2.2.2.2.2.1
  have x0:W1.cell? ⟨bp,0,none⟩=some (.int .u64 (m:Int)):=hP1.cell 0
  have x1:W1.cell? ⟨bp,1,none⟩=some (.int .u64 (k:Int)):=hP1.cell 1
  have x2:W1.cell? ⟨bp,2,none⟩=some (.slice a2 q c2):=hP1.cell 2
  have cc:=z8t d m k (JSX m k t) HJ.out a2 q c2 l W1 (L0.out W1 hW1).2.2.2.2.2.2.2.2.1 (L0.out W1 hW1).2.2.2.2.1 (L0.out W1 hW1).2.2.2.2.2.1 (L0.out W1 hW1).2.2.2.2.2.2.1
  rw [B1.out.2.2.2.1] at cc
  obtain ⟨N1,hN1⟩:∃ N1,PC m=N1:=⟨_,rfl⟩
  obtain ⟨N2,hN2⟩:∃ N2,PC k=N2:=⟨_,rfl⟩
  rw [hN1,hN2] at cc
  have HN:Aside (PC m=N1∧PC k=N2∧N1≤64∧N2≤64):=⟨hN1,hN2,by rw [← hN1];exact B1.out.2.2.2.2.2.2.2.1,by rw [← hN2];exact B1.out.2.2.2.2.2.2.2.2.1⟩
  clear hN1 hN2 hP1
  go_wp2_with fail
  refine cc.mono ?_
  rintro e W2 ⟨ax,cx,ay,cy,rfl,ox,oy,hb2, -⟩
  clear cc x0 x1 x2
  dsimp only at ox oy ⊢
  have hW2:Below W0.heap.size W0 W2:=hW1.trans (hb2.mono hW1.size)
  have R2:Aside (W2.ownsRow W0.heap.size 32 32 (.slice ax N1 cx) N1 (z00 PA)∧W2.ownsRow W0.heap.size 32 32 (.slice ay N2 cy) N2 (z00 PB)∧Below W0.heap.size W0 W2):=⟨z0J ox hW1.size,z0J oy hW1.size,hW2⟩
  clear ox oy hb2 hW1 hW2
  go_upto_region 13 with fail
  have co:∀ j,j≤n→∀ W,Below W2.heap.size W2 W→Calls Tryz.prog 6 #[.int .i64 d,.slice a j c] W fun e w'=>∃ u,e=.returned (.pointer (some ⟨u,0,none⟩))∧Below W2.heap.size W2 w'∧(∃ X D,HX.FOREST w' X u d 3 j D hs)∧Below W.heap.size W w':=fun j hj W h=>by
    have hL:=L0.out W (R2.out.2.2.trans (h.mono R2.out.2.2.size))
    refine (HX.zdj d a j c hs W (by have:=HA.out;omega) (zdy hL.2.2.2.2.2.2.2.2.2 hj) (fun i hi=>HA.out.2.2.2.1 i (by omega)) hL.2.2.2.2.2.1).mono ?_
    rintro e w' ⟨u,D,rfl,hF,hb, -⟩
    exact ⟨u,rfl,h.trans (hb.mono h.size),⟨_,D,hF⟩,hb⟩
  refine zf2 W2 d a n c m k (z7s a n c m (by have:=HA.out;omega)) (z7s a n c k (by have:=HA.out;omega)) (fun W=>Below W2.heap.size W2 W) (fun u W=>∃ X D,HX.FOREST W X u d 3 m D hs) (fun u W=>∃ X D,HX.FOREST W X u d 3 k D hs) (Below.refl _ _).drew (fun u W W' ⟨X,D,h⟩ hb=>⟨X,D,h.below hb⟩) (co m (by have:=HA.out;omega)) (co k HA.out.2.1) (fun _ _ _ _ _ h=>h) ?_
  rintro u v W3 ⟨h3,⟨X1,D1,F1⟩,⟨X2,D2,F2⟩⟩
  dsimp only
  clear co
  have hW3:Below W0.heap.size W0 W3:=R2.out.2.2.trans (h3.mono R2.out.2.2.size)
  have cP:=HX.z8L F1 (L0.out W3 hW3).2.2.2.2.1
  have R3:Aside (W3.ownsRow W0.heap.size 32 32 (.slice ax N1 cx) N1 (z00 PA)∧W3.ownsRow W0.heap.size 32 32 (.slice ay N2 cy) N2 (z00 PB)∧Below W0.heap.size W0 W3∧HX.FOREST W3 X2 v d 3 k D2 hs):=⟨z0c R2.out.1 h3,z0c R2.out.2.1 h3,hW3,F2⟩
  clear F1 F2 h3 R2 hW3
  go_wp2_with fail
  refine cP.mono ?_
  rintro e W4 ⟨pv,rfl,o4,hb4⟩
  clear cP
  rw [B1.out.2.2.2.2.2.2.2.2.2.2.2.2.1,HN.out.1] at o4
  obtain ⟨az,cz,rfl, -, -⟩:=z2P o4
  have hW4:Below W0.heap.size W0 W4:=R3.out.2.2.1.trans (hb4.mono R3.out.2.2.1.size)
  have cS:=z2J ax az N1 N1 cx cz PA PA W4 (z19 (z0c R3.out.1 hb4) B1.out.2.2.2.2.2.2.2.2.2.1) (z19 o4 B1.out.2.2.2.2.2.2.2.2.2.1) (by have:=HN.out;omega)
  rw [decide_eq_true rfl] at cS
  have R4:Aside (W4.ownsRow W0.heap.size 32 32 (.slice ax N1 cx) N1 (z00 PA)∧W4.ownsRow W0.heap.size 32 32 (.slice ay N2 cy) N2 (z00 PB)∧Below W0.heap.size W0 W4∧HX.FOREST W4 X2 v d 3 k D2 hs):=⟨z0c R3.out.1 hb4,z0c R3.out.2.1 hb4,hW4,R3.out.2.2.2.below hb4⟩
  clear o4 hb4 R3 hW4
  go_wp2_with fail
  refine cS.mono ?_
  rintro e W5 ⟨rfl,hb5⟩
  clear cS
  have hW5:Below W0.heap.size W0 W5:=R4.out.2.2.1.trans (hb5.mono R4.out.2.2.1.size)
  have cP:=HX.z8L (R4.out.2.2.2.below hb5) (L0.out W5 hW5).2.2.2.2.1
  have R5:Aside (W5.ownsRow W0.heap.size 32 32 (.slice ax N1 cx) N1 (z00 PA)∧W5.ownsRow W0.heap.size 32 32 (.slice ay N2 cy) N2 (z00 PB)∧Below W0.heap.size W0 W5):=⟨z0c R4.out.1 hb5,z0c R4.out.2.1 hb5,hW5⟩
  clear hW5 hb5 R4
  go_wp2_with fail
  refine cP.mono ?_
  rintro e W6 ⟨pw,rfl,o6,hb6⟩
  clear cP
  rw [B1.out.2.2.2.2.2.2.2.2.2.2.2.2.2,HN.out.2.1] at o6
  obtain ⟨av,cv,rfl, -, -⟩:=z2P o6
  have hW6:Below W0.heap.size W0 W6:=R5.out.2.2.trans (hb6.mono R5.out.2.2.size)
  have cS:=z2J ay av N2 N2 cy cv PB PB W6 (z19 (z0c R5.out.2.1 hb6) B1.out.2.2.2.2.2.2.2.2.2.2.1) (z19 o6 B1.out.2.2.2.2.2.2.2.2.2.2.1) (by have:=HN.out;omega)
  rw [decide_eq_true rfl] at cS
  have R6:Aside (W6.ownsRow W0.heap.size 32 32 (.slice ax N1 cx) N1 (z00 PA)∧W6.ownsRow W0.heap.size 32 32 (.slice ay N2 cy) N2 (z00 PB)∧Below W0.heap.size W0 W6):=⟨z0c R5.out.1 hb6,z0c R5.out.2.1 hb6,hW6⟩
  clear o6 hb6 R5 hW6
  go_wp2_with fail
  refine cS.mono ?_
  rintro e W7 ⟨rfl,hb7⟩
  clear cS
  have hW7:Below W0.heap.size W0 W7:=R6.out.2.2.trans (hb7.mono R6.out.2.2.size)
  by_cases hmk:m=k
  · have hc:((m:Int) == (k:Int))=true:=by rw [HCM.out,decide_eq_true hmk]
    have cS:=z2J ax ay N1 N2 cx cy PA PB W7 (z19 (z0c R6.out.1 hb7) B1.out.2.2.2.2.2.2.2.2.2.1) (z19 (z0c R6.out.2.1 hb7) B1.out.2.2.2.2.2.2.2.2.2.2.1) (by have:=HN.out;omega)
    rw [decide_eq_true (HK.out.2.2.2 hmk)] at cS
    clear hmk R6 hb7
    go_wp2_with fail
    refine cS.mono ?_
    rintro e W8 ⟨rfl,hb8⟩
    clear cS
    have hW8:Below W0.heap.size W0 W8:=hW7.trans (hb8.mono hW7.size)
    clear hW7 hb8
    have kA:=(L0.out W8 hW8).2.1
    have kB:=(L0.out W8 hW8).2.2.1
    have cz:=C30.out W8 hW8
    have hk1':=z3f (n:=k) (by have:=HA.out;omega)
    go_wp2_with (first
      | (refine wpList_load_row rfl 32 (.tmp 12) rfl ba rfl 32 (z00 A).toArray (0,0) _ kA Tryz.underlying32 rfl (z08 lA) ?_)
      | (refine wpList_load_row rfl 32 (.tmp 14) rfl bb rfl 32 (z00 B).toArray (0,0) _ kB Tryz.underlying32 rfl (z08 lB) ?_)
      | fail)
    refine cz.mono ?_
    rintro e W9 ⟨rfl,hW9⟩
    clear cz kA kB
    have hL9:=L0.out W9 hW9
    have ca:=z7p W9 hL9.2.2.2.2.1 hL9.2.2.2.2.2.1 hL9.2.2.2.2.2.2.1
    have HB9:Aside (Below w.heap.size w W9):=hL9.1
    clear hL9 L0 HI B1 HA HCM HK C30 HJ
    go_wp2_with fail
    refine ca.mono ?_
    rintro e w9 ⟨rfl,hb9⟩
    clear ca
    go_wp2
    go_ret
    exact ⟨rfl,HB9.out.trans (hb9.mono HB9.out.size)⟩
  · have hc:((m:Int) == (k:Int))=false:=by rw [HCM.out,decide_eq_false hmk]
    clear hmk R6 hb7
    have kA:=(L0.out W7 hW7).2.1
    have kB:=(L0.out W7 hW7).2.2.1
    have cz:=C30.out W7 hW7
    have hk1':=z3f (n:=k) (by have:=HA.out;omega)
    go_wp2_with (first
      | (refine wpList_load_row rfl 32 (.tmp 12) rfl ba rfl 32 (z00 A).toArray (0,0) _ kA Tryz.underlying32 rfl (z08 lA) ?_)
      | (refine wpList_load_row rfl 32 (.tmp 14) rfl bb rfl 32 (z00 B).toArray (0,0) _ kB Tryz.underlying32 rfl (z08 lB) ?_)
      | fail)
    refine cz.mono ?_
    rintro e W9 ⟨rfl,hW9⟩
    clear cz kA kB
    have hL9:=L0.out W9 hW9
    have ca:=z7p W9 hL9.2.2.2.2.1 hL9.2.2.2.2.2.1 hL9.2.2.2.2.2.2.1
    have HB9:Aside (Below w.heap.size w W9):=hL9.1
    clear hL9 L0 HI B1 HA HCM HK C30 HJ
    go_wp2_with fail
    refine ca.mono ?_
    rintro e w9 ⟨rfl,hb9⟩
    clear ca
    go_wp2
    go_ret
    exact ⟨rfl,HB9.out.trans (hb9.mono HB9.out.size)⟩
theorem z4M (d:Int) (a:Option Addr) (n c m k:Nat) (hs:Nat→Nat→Nat) (w:World) (hnc:n≤c) (hH:HX.HASHES w a n hs) (h8:∀ i,i<n→∀ j,hs i j<256) (hT:Tabled w) (hX:HX.Tabled w) (h0:2<w.heap.size):Calls Tryz.prog 4 #[.int .i64 d,.slice a n c,.int .u64 (m:Int),.int .u64 (k:Int)] w fun e w'=>e=.returned (.bool true)∧Below w.heap.size w w':=by
  by_cases hn:(300:Int)<(n:Int)
  · exact z9x d a n c m k w hn
  · by_cases hk:n<k
    · exact zbK d a n c m k w hn hk
    · by_cases hm:k<m
      · exact zbL d a n c m k w hn (by omega) hm
      · exact z9y d a n c m k hs w hn (by omega) (by omega) hnc hH h8 hT hX h0
end Go.Proofs.YthjeeblddipiiaaGreatDoor

namespace Go.Proofs.YthjeeblddipiiaaGreatDoor
open Go.ChangeShapes Go.WideShapes Go.ChangeAt Go.WideMaps Go.WideElems Go.RowKit
set_option maxRecDepth 100000
theorem own:ownKnob Tryz.prog.godebug=none:=by kernel_rfl
theorem zai:laidOutB Tryz.prog=true:=by kernel_rfl
theorem gTab:Tryz.prog.globalNamed "math/bits.deBruijn64tab"=some 0:=by kernel_rfl
theorem tTab:(Tryz.prog.globals[0]?).map (·.type)=some 157:=by kernel_rfl
theorem zgk {H:Type}:(Rows.laid_math_bits_deBruijn64tab:DataW H)=.agg (TAB.map fun n=>.lit (.int .u8 (n:Nat))):=rfl
end Go.Proofs.YthjeeblddipiiaaGreatDoor

namespace Go.Proofs.YthjeeblddipiiaaGreatDoor.HX
set_option maxRecDepth 100000
open Go.ChangeShapes Go.WideShapes Go.ChangeAt Go.WideMaps Go.WideElems Go.RowKit
theorem own:ownKnob Tryz.prog.godebug=none:=by kernel_rfl
theorem zai:laidOutB Tryz.prog=true:=by kernel_rfl
theorem gRounds:Tryz.prog.globalNamed "massif/hash.rounds"=some 2:=by kernel_rfl
theorem gBegin:Tryz.prog.globalNamed "massif/hash.begin"=some 1:=by kernel_rfl
theorem tRounds:(Tryz.prog.globals[2]?).map (·.type)=some 174:=by kernel_rfl
theorem tBegin:(Tryz.prog.globals[1]?).map (·.type)=some 172:=by kernel_rfl
theorem zbM {H:Type}:(Rows.laid_massif_hash_rounds:DataW H)=.agg (KLIST.map fun n=>.lit (.int .u32 (n:Nat))):=rfl
theorem zdz {H:Type}:(Rows.laid_massif_hash_begin:DataW H)=.agg (BEGIN.map fun n=>.lit (.int .u32 (n:Nat))):=rfl
theorem z8R {H:Type} {enc:TypeId × Value→H} {W:World} {base fuel n:Nat} {sp:Nat→Bool} {held:Bool} {t:TypeId} {cs:List Value} {ps:List MemPlace} (L:List Nat) (hL:L.length=n) (ht:Tryz.prog.underlying t=some (.array n 171))
    (hd:DataW.trod enc Tryz.prog W base sp held fuel t cs=some (.agg (L.map fun n=>.lit (.int .u32 (n:Nat))),ps)) (i:Nat) (hi:i<n):cs[i]?=some (.int .u32 (L.getD i 0:Nat)):=by
  obtain ⟨xs,m1,rfl,hx1,hlen,hn,hel⟩:=DataW.trod_array ht hd
  have c5:Tryz.prog.cellsOf 171=1:=by kernel_rfl
  simp only [Prod.mk.injEq,DataW.agg.injEq] at hx1
  have hx:=hx1.1
  have h0:=hel i hi
  have hi':i<xs.length:=by omega
  rw [List.getElem?_eq_getElem hi',c5,Nat.mul_one] at h0
  obtain ⟨k,e1,e2,_⟩:=DataW.trod_int Tryz.underlying171 h0
  have hk:(k:Int)=((L.getD i 0:Nat):Int):=by
    have hz:=congrArg (fun l=>l[i]?) hx
    have hT:i<L.length:=by omega
    simp only [List.getElem?_map,List.getElem?_eq_getElem hi',List.getElem?_eq_getElem hT,Option.map_some,e2] at hz
    simp at hz
    rw [List.getD_eq_getElem?_getD,List.getElem?_eq_getElem hT]
    simpa using hz.symm
  rw [← hk]
  have:=congrArg (fun l=>l[0]?) e1
  simpa using this
end Go.Proofs.YthjeeblddipiiaaGreatDoor.HX

namespace Go.Proofs.YthjeeblddipiiaaGreatDoor.HX
open Go.ChangeShapes Go.WideShapes Go.ChangeAt Go.WideMaps Go.WideElems Go.RowKit
set_option maxRecDepth 100000
theorem zf3 {W:World} (h:laidMetH Tryz.prog [("math/bits.deBruijn64tab",Rows.laid_math_bits_deBruijn64tab),("massif/hash.begin",Rows.laid_massif_hash_begin),("massif/hash.rounds",Rows.laid_massif_hash_rounds)] W):Go.Proofs.YthjeeblddipiiaaGreatDoor.Tabled W∧Tabled W∧2<W.heap.size:=by
  rw [MakeChecks.laidMetH_plain _ _ _ (by kernel_rfl)] at h
  obtain ⟨ps,⟨g0,t0,cs0,f0,p0,q0,hg0,ht0,hv0,hd0,⟨g1,t1,cs1,f1,p1,q1,hg1,ht1,hv1,hd1,⟨g2,t2,cs2,f2,p2,q2,hg2,ht2,hv2,hd2,_,_⟩,_⟩,_⟩,_,_⟩:=h
  obtain rfl:=Option.some.inj (gTab.symm.trans hg0)
  obtain rfl:=Option.some.inj (tTab.symm.trans ht0)
  obtain rfl:=Option.some.inj (gBegin.symm.trans hg1)
  obtain rfl:=Option.some.inj (tBegin.symm.trans ht1)
  obtain rfl:=Option.some.inj (gRounds.symm.trans hg2)
  obtain rfl:=Option.some.inj (tRounds.symm.trans ht2)
  rw [zdz] at hd1
  rw [zbM] at hd2
  have A:∀ i,i<8→W.cell? ⟨1,i,none⟩=some (.int .u32 (BEGIN.getD i 0:Nat)):=fun i hi=>(World.var?_cell hg1 hv1 i).trans (Array.getElem?_toList.symm.trans (z8R BEGIN rfl Tryz.underlying172 hd1 i hi))
  have B:∀ i,i<64→W.cell? ⟨2,i,none⟩=some (.int .u32 (KC i:Nat)):=fun i hi=>(World.var?_cell hg2 hv2 i).trans (Array.getElem?_toList.symm.trans (z8R KLIST rfl Tryz.underlying174 hd2 i hi))
  obtain ⟨xs,m1,rfl,hx1,hlen,hn,hel⟩:=DataW.trod_array Tryz.underlying157 hd0
  have c5:Tryz.prog.cellsOf 5=1:=by kernel_rfl
  simp only [Prod.mk.injEq] at hx1
  have hx:=hx1.1
  rw [zgk] at hx
  simp only [DataW.agg.injEq] at hx
  have T:Go.Proofs.YthjeeblddipiiaaGreatDoor.Tabled W:=fun i hi=>by
    have h0:=hel i hi
    have hi':i<xs.length:=by omega
    rw [List.getElem?_eq_getElem hi',c5,Nat.mul_one] at h0
    obtain ⟨k,e1,e2,_⟩:=DataW.trod_int Tryz.underlying5 h0
    have hk:(k:Int)=((TAB.getD i 0:Nat):Int):=by
      have hz:=congrArg (fun l=>l[i]?) hx
      have hT:i<TAB.length:=hi
      simp only [List.getElem?_map,List.getElem?_eq_getElem hi',List.getElem?_eq_getElem hT,Option.map_some,e2] at hz
      simp at hz
      rw [List.getD_eq_getElem?_getD,List.getElem?_eq_getElem hT]
      simpa using hz.symm
    have hv:=World.var?_cell hg0 hv0 i
    rw [hv,← hk]
    have:=congrArg (fun l=>l[0]?) e1
    simp at this
    simpa using this
  have z0:0<W.heap.size:=World.block_lt_of_cell? W _ (T 0 (by decide))
  have z1:1<W.heap.size:=World.block_lt_of_cell? W _ (A 0 (by decide))
  have z2:2<W.heap.size:=World.block_lt_of_cell? W _ (B 0 (by decide))
  exact ⟨T,⟨B,A,by omega⟩,by omega⟩
theorem zdA {H:Type} {enc:TypeId × Value→H} {W:World} {fuel:Nat} {cs:List Value} {x:DataW H × List MemPlace} (hf:DataW.trod enc Tryz.prog W 0 (fun _=>true) true fuel 32 cs=some x):∃ h:Nat→Nat,(∀ i,h i<256)∧cs=z01 .u8 32 h:=by
  obtain ⟨xs,m,rfl,_,hl,hn,hel⟩:=DataW.trod_array Tryz.underlying32 hf
  have c5:Tryz.prog.cellsOf 5=1:=by kernel_rfl
  have c32:Tryz.prog.cellsOf 32=32:=by kernel_rfl
  rw [c32] at hl
  have hx:∀ i,i<32→∃ k:Nat,cs[i]?=some (.int .u8 (k:Int))∧k<256:=fun i hi=>by
    have h0:=hel i hi
    rw [List.getElem?_eq_getElem (by omega),c5,Nat.mul_one] at h0
    obtain ⟨k,e1,_,e3⟩:=DataW.trod_int Tryz.underlying5 h0
    have hb:=bounds_u8 e3
    refine ⟨k.toNat,?_,by omega⟩
    have:=congrArg (fun l=>l[0]?) e1
    rw [Int.toNat_of_nonneg hb.1]
    simpa using this
  have F:∃ f:Nat→Nat,(∀ i,f i<256)∧∀ i,i<32→cs[i]?=some (.int .u8 ((f i:Nat):Int)):=by
    refine ⟨fun i=>if hi:i<32 then (hx i hi).choose else 0,fun i=>?_,fun i hi=>?_⟩
    · by_cases hi:i<32
      · simp only [hi,dif_pos];exact (hx i hi).choose_spec.2
      · simp only [hi,dif_neg,not_false_iff];decide
    · simp only [hi,dif_pos];exact (hx i hi).choose_spec.1
  obtain ⟨f,hf1,hf2⟩:=F
  refine ⟨f,hf1,?_⟩
  apply List.ext_getElem?
  intro i
  by_cases hi:i<32
  · rw [hf2 i hi,z0W _ _ _ _ hi]
  · rw [List.getElem?_eq_none (by omega),List.getElem?_eq_none (by rw [z09];omega)]
theorem z9z {H:Type} {enc:TypeId × Value→H} {W:World} {a:Option Addr} {k c:Nat} {d:DataW H} {ps:List MemPlace} (hd:DataW.Trod enc Tryz.prog W 0 (fun _=>true) true 22 (.slice a k c) d ps):
    ∃ hs:Nat→Nat→Nat,(∀ i,i<k→∀ j,hs i j<256)∧HASHES W a k hs:=by
  obtain ⟨fuel,hf⟩:=hd
  rcases DataW.trod_slice Tryz.underlying22 hf with ⟨h0,_⟩ | ⟨ad,len,cap,elems,rest,n,_,h0,hx,_,hl,hm,hlen,hel,_,_⟩
  · simp [Value.cells] at h0
    obtain ⟨rfl,rfl,rfl⟩:=h0
    exact ⟨fun _ _=>0,fun i hi=>by omega,fun h=>by omega⟩
  · simp [Value.cells] at h0
    obtain ⟨rfl,rfl,rfl⟩:=h0
    have c32:Tryz.prog.cellsOf 32=32:=by kernel_rfl
    have each:∀ i,i<k→∃ h:Nat→Nat,(∀ j,h j<256)∧∀ j,j<32→W.cell? ((ad.add (i*32)).add j)=some (.int .u8 ((h j:Nat):Int)):=fun i hi=>by
      have h:=hel i hi
      rw [List.getElem?_eq_getElem (by omega),c32,Option.bind_eq_some_iff] at h
      obtain ⟨cs,hcs,ht⟩:=h
      obtain ⟨f,h1,rfl⟩:=zdA ht
      have hs:=(World.cells?_some hcs).2.2
      refine ⟨f,h1,fun j hj=>?_⟩
      have s:=hs j hj
      rw [s]
      exact z0W .u8 32 f j hj
    have F:∃ f:Nat→Nat→Nat,∀ i,i<k→(∀ j,f i j<256)∧∀ j,j<32→W.cell? ((ad.add (i*32)).add j)=some (.int .u8 ((f i j:Nat):Int)):=by
      refine ⟨fun i=>if hi:i<k then (each i hi).choose else fun _=>0,fun i hi=>?_⟩
      simp only [hi,dif_pos]
      exact (each i hi).choose_spec
    obtain ⟨f,hf2⟩:=F
    refine ⟨f,fun i hi=>(hf2 i hi).1,fun h0k=>?_⟩
    obtain ⟨b,off,spot⟩:=ad
    have hc:=(hf2 0 h0k).2 0 (by decide)
    have hspot:spot=none:=by simpa [Addr.add] using World.cell?_spot hc
    subst hspot
    refine ⟨b,off,rfl,?_,fun i hi j v hv=>?_⟩
    · have:=World.block_lt_of_cell? W _ hc
      simpa [Addr.add] using this
    · have hj:j<32:=by have:=(List.getElem?_eq_some_iff.1 hv).1;rw [z09] at this;exact this
      have h1:=(hf2 i hi).2 j hj
      rw [z1s,z1s] at h1
      rw [z0W _ _ _ _ hj] at hv
      rw [h1,← hv]
end Go.Proofs.YthjeeblddipiiaaGreatDoor.HX

namespace Go.Proofs.YthjeeblddipiiaaGreatDoor.HX
open Go.ChangeShapes Go.WideShapes Go.ChangeAt Go.WideMaps Go.WideElems Go.RowKit
set_option maxRecDepth 100000
theorem zdB {H:Type} {enc:TypeId × Value→H} {W:World} {a:Option Addr} {k c:Nat} {d:DataW H} {ps:List MemPlace} (hd:DataW.Trod enc Tryz.prog W 0 (fun _=>true) true 22 (.slice a k c) d ps):k≤c∧(a=none→c=0∧k=0):=by
  obtain ⟨fuel,hf⟩:=hd
  rcases DataW.trod_slice Tryz.underlying22 hf with ⟨h0,_⟩ | ⟨ad,len,cap,elems,rest,n,_,h0,hx,_,hl,hm,hlen,hel,_,_⟩
  · simp [Value.cells] at h0
    exact ⟨by omega,fun _=>⟨h0.2.2,h0.2.1⟩⟩
  · simp [Value.cells] at h0
    obtain ⟨rfl,rfl,rfl⟩:=h0
    exact ⟨by omega,fun h=>by cases h⟩
end Go.Proofs.YthjeeblddipiiaaGreatDoor.HX
