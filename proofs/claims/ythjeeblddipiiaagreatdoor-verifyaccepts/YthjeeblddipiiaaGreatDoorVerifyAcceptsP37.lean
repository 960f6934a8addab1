/- Texts of VerifyAccepts, one behind the other: VerifyAcceptsWalk, PosDoor, HashDoor, MmrDoor. -/
import Derived.Test.YthjeeblddipiiaaGreatDoorRows
import Derived.ProofKit
import Derived.LaidMore
import Derived.OpenShut
import Derived.Stop.Joined
import Derived.Test.YthjeeblddipiiaaGreatDoorVerifyAcceptsP5
import Derived.Test.YthjeeblddipiiaaGreatDoorVerifyAcceptsP12
import Derived.Test.YthjeeblddipiiaaGreatDoorVerifyAcceptsP14
import Derived.Test.YthjeeblddipiiaaGreatDoorVerifyAcceptsP34
import Derived.Test.YthjeeblddipiiaaGreatDoorVerifyAcceptsP35
import Derived.Test.YthjeeblddipiiaaGreatDoorVerifyAcceptsP36
namespace Go.Proofs.YthjeeblddipiiaaGreatDoor
open Go.RowKit
set_option maxRecDepth 100000
theorem z80 (d:Int) (a:Option Addr) (n c i m:Nat) (w:World) (hn:(300:Int)<(n:Int)):Calls Tryz.prog 3 #[.int .i64 d,.slice a n c,.int .u64 (i:Int),.int .u64 (m:Int)] w fun e w'=>e=.returned (.bool true)∧Below w.heap.size w w':=by
  go_enter Tryz.func3,Tryz.ntmps3
  go_wp2
  go_ret
  exact ⟨rfl,Below.refl _ _⟩
theorem z8J (d:Int) (a:Option Addr) (n c i m:Nat) (w:World) (hn:¬ (300:Int)<(n:Int)) (hm:n<m):Calls Tryz.prog 3 #[.int .i64 d,.slice a n c,.int .u64 (i:Int),.int .u64 (m:Int)] w fun e w'=>e=.returned (.bool true)∧Below w.heap.size w w':=by
  have hu:=HX.z3U (n:=n) (by omega)
  have hm':(n:Int)<(m:Int):=by omega
  go_enter Tryz.func3,Tryz.ntmps3
  go_wp2
  go_ret
  exact ⟨rfl,Below.refl _ _⟩
theorem z8K (d:Int) (a:Option Addr) (n c i m:Nat) (w:World) (hn:¬ (300:Int)<(n:Int)) (hm:m≤n) (hi:m≤i):Calls Tryz.prog 3 #[.int .i64 d,.slice a n c,.int .u64 (i:Int),.int .u64 (m:Int)] w fun e w'=>e=.returned (.bool true)∧Below w.heap.size w w':=by
  have hu:=HX.z3U (n:=n) (by omega)
  have hm':¬ (n:Int)<(m:Int):=by omega
  have hi':(m:Int)≤(i:Int):=by omega
  go_enter Tryz.func3,Tryz.ntmps3
  go_wp2
  go_ret
  exact ⟨rfl,Below.refl _ _⟩
theorem z4g {ops:Array Oper} {rest:List Oper} {o:Oper} {a:Act} {w:World} {Q:Exit→Act→World→Prop} (hw:Region.wanted o (yielded ops a.tmps)=true) (ty:TypeId) (x:Operand) (ho:o.op=.load ty x)
    (b off:Nat) (hx:a.eval x=.pointer (some ⟨b,off,none⟩)) (cs:List Value) (d:TypeDesc) (hc:w.rangeAt b off cs) (hu:Tryz.prog.underlying ty=some d) (hd:d.isRow=true) (hi:(Tryz.prog.info? ty).map (·.size)=some cs.length)
    (h:wpList Tryz.prog ops Q rest (a.put o.dst (.agg cs.toArray)) w):wpList Tryz.prog ops Q (o :: rest) a w:=by
  simp only [wpList]
  rw [if_pos hw]
  exact .inl (wp_load_mid ty x ho b off hx cs d hc hu hd hi h)
theorem z1Z {n:Nat} (h:n≤1000):IntKind.u64.wrap ((n:Int)+1)=((n+1:Nat):Int):=by
  simp [IntKind.wrap,IntKind.signed,IntKind.bits]
  omega
set_option maxHeartbeats 4000000 in
theorem z81 (d:Int) (a:Option Addr) (n c i m:Nat) (hs:Nat→Nat→Nat) (w:World) (hn:¬ (300:Int)<(n:Int)) (hmn:m≤n) (him:i<m) (hH:HX.HASHES w a n hs) (h8:∀ i,i<n→∀ j,hs i j<256) (hT:Tabled w) (hX:HX.Tabled w) (h0:2<w.heap.size):Calls Tryz.prog 3 #[.int .i64 d,.slice a n c,.int .u64 (i:Int),.int .u64 (m:Int)] w fun e w'=>e=.returned (.bool true)∧Below w.heap.size w w':=by
  have hu:=HX.z3U (n:=n) (by omega)
  have hm1:¬ (n:Int)<(m:Int):=by omega
  have hi1:¬ (m:Int)≤(i:Int):=by omega
  have hi2:(i:Int)<(n:Int):=by omega
  have cO:=HX.zg0 d a n c hs w (by omega) hH h8 hX
  obtain ⟨lb,lo,rfl,hlb,hlr⟩:=hH (by omega)
  have HT:Aside (∀ W,Below w.heap.size w W→Tabled W∧HX.Tabled W∧0<W.heap.size∧2<W.heap.size∧W.rangeAt lb (lo+i*32) (z00 (TVAL d hs 0 i))):=fun W h=>by
    have hz:=h.size
    exact ⟨hT.below (by omega) h,hX.below h,by omega,by omega,by rw [show TVAL d hs 0 i=LST (hs i) from rfl,← z8I];exact z0O (hlr i (by omega)) h hlb⟩
  have HA:Aside (n≤300∧m≤n∧i<m∧(∀ i,i<n→∀ j,hs i j<256)):=⟨by omega,hmn,him,h8⟩
  have hcm:((m:Int) == (n:Int))=decide (m=n):=by
    by_cases e:m=n
    · simp [e]
    · rw [decide_eq_false e]
      exact beq_eq_false_iff_ne.2 (by omega)
  have HCM:Aside (((m:Int) == (n:Int))=decide (m=n)):=hcm
  clear hH h8 hT hX h0 hlb hlr hcm hmn him
  go_enter Tryz.func3,Tryz.ntmps3
  go_wp2_with fail
  refine cO.mono ?_
  rintro e w1 ⟨g,C,rfl,hF,hb1, -⟩
  clear cO
  have R1:Aside (HX.FOREST w1 w.heap.size g d 3 n C hs∧Below w.heap.size w w1):=⟨hF,hb1⟩
  have cM:=zdP hF i m HA.out.2.2.1 HA.out.2.1 (by have:=HA.out.1;omega) (HT.out _ hb1).1 (HT.out _ hb1).2.2.1
  clear hF hb1
  go_wp2_with fail
  refine cM.mono ?_
  rintro e w2 ⟨a2,c2,rfl,o2,hb2⟩
  clear cM
  obtain ⟨k,hk⟩:∃ k,(PSP i m).length=k:=⟨_,rfl⟩
  obtain ⟨l,hl⟩:∃ l,CAT (TVAL d hs) (PSP i m)=l:=⟨_,rfl⟩
  rw [hk,hl] at o2
  rw [hk]
  obtain ⟨w3,hw3⟩:∃ w3,w2.alloc (.cells #[.int .u64 (m:Int),.int .u64 (i:Int),.slice a2 k c2] 27)=w3:=⟨_,rfl⟩
  obtain ⟨bp,hbp⟩:∃ bp,w2.heap.size=bp:=⟨_,rfl⟩
  have hb3:Below w2.heap.size w2 w3:=by rw [← hw3];exact (Below.refl _ _).alloc (Nat.le_refl _) _
  have hP3:Has w3 bp #[.int .u64 (m:Int),.int .u64 (i:Int),.slice a2 k c2] 27:=by rw [← hw3,← hbp];exact Has.new _ _ _
  have h300:=HA.out.1
  have hmn:=HA.out.2.1
  have him:=HA.out.2.2.1
  have hlr:∀ x∈l,0≤x∧x≤255:=by rw [← hl];exact z5x d hs n HA.out.2.2.2 _ (z9v him hmn (by omega))
  have hll:l.length=32*k:=by rw [← hl,← hk];exact z4K _ _ _
  have hk188:k≤188:=by rw [← hk];have:=z5N him (by omega);omega
  have hbw3:Below w.heap.size w w3:=R1.out.2.trans ((hb2.trans (hb3.mono hb2.size)).mono R1.out.2.size)
  have hf3:Flat w3 a2 k l:=(z2i o2 hlr).below hb3
  have iL:IsH (TVAL d hs 0 i):=z9u HA.out.2.2.2 (n:=n) (by simp;omega)
  have iR:IsH (LST (HX.z1n d hs m)):=z46 fun j=>HX.ze4 _ _ _ j
  have hFo3:HX.FOREST w3 w.heap.size g d 3 n C hs:=R1.out.1.below (hb2.trans (hb3.mono hb2.size))
  have cR:=HX.zfZ hFo3 m hmn (HT.out _ hbw3).1 (HT.out _ hbw3).2.1
  rw [z1q] at cR
  have B1:Aside (ENC m i k l=(0,PRB m i l)∧MEMA d (LST (HX.z1n d hs m)) m i (TVAL d hs 0 i) (PRB m i l)=0∧(∀ r leaf,MEMA d r (m+1) i leaf (PRB m i l)=30)∧(∀ r leaf,MEMA d r m (i+1) leaf (PRB m i l)=32)∧CLA d (TVAL d hs 0 i) m i k l=(0,PC m,CAT (TVAL d hs) (SPAN 0 m))∧BAGA d m (PC m) (CAT (TVAL d hs) (SPAN 0 m))=(0,LST (HX.z1n d hs m))∧3≤(PRB m i l).length∧(PRB m i l).length≤10000∧(∀ x∈PRB m i l,0≤x∧x≤255)∧PC m≤64∧∀ x∈CAT (TVAL d hs) (SPAN 0 m),0≤x∧x≤255):=by
    refine ⟨by rw [← hk];exact zeZ him (by omega) l,by rw [← hl];exact zcE d hs him (by omega),fun r leaf=>zcF d r leaf him (by omega) (by rw [hk];exact hll) (by omega) i,fun r leaf=>zaX d r leaf him (by omega) (by rw [hk];exact hll) (by omega),by rw [← hk,← hl];exact z7Y d hs him (by omega),z6H d hs (by omega),zaQ _ _ _,?_,zcr (by omega) (by omega) hlr,z1w 64 m (by omega),z5x d hs n HA.out.2.2.2 _ ?_⟩
    · unfold PRB
      have h1:=z3l m
      have h2:=z3l i
      simp only [List.length_cons,List.length_append,z0C,hll]
      omega
    · intro s hs
      have:=((z33 (a:=0) (b:=m) (by omega) (Nat.zero_le m)).within _ hs).2.1
      omega
  have hKL:Aside (m=n→HX.HL (HX.PKV d hs n)=z00 (CAT (TVAL d hs) (SPAN 0 m))):=fun e=>by rw [e];exact zfm d hs (by omega)
  have R3:Aside (HX.FOREST w3 w.heap.size g d 3 n C hs∧Below w.heap.size w w3∧Has w3 bp #[.int .u64 (m:Int),.int .u64 (i:Int),.slice a2 k c2] 27∧Flat w3 a2 k l∧k≤188):=⟨hFo3,hbw3,hP3,hf3,hk188⟩
  generalize PRB m i l=bl at *
  generalize LST (HX.z1n d hs m)=R at *
  generalize CAT (TVAL d hs) (SPAN 0 m)=PL at *
  generalize TVAL d hs 0 i=L at *
  have lR:=iR.1
  have lL:=iL.1
  have HI:Aside (IsH R∧IsH L):=⟨iR,iL⟩
  rw [hbp] at hb3
  clear hk hl o2 hlr hll hk188 hbw3 hf3 hb2 hb3 R1 hFo3 iR iL h300 hmn him
  go_upto_region 7 with fail
  clear hw3 hP3 hbp
  go_wp2_with fail
  refine cR.mono ?_
  rintro e w4 ⟨rfl,hb4⟩
  clear cR
  go_upto_region 8 with (first
    | (refine wpList_store_row rfl 32 (.tmp 12) (.tmp 52) rfl _ _ rfl rfl 32 _ (Has.new w4 _ _) (z0a lR) (by simp [z00,lR]) (z0i R) ?_;rw [World.setRow_alloc_new])
    | fail)
  obtain ⟨w5,hw5⟩:∃ w5,w4.alloc (.cells (z00 R).toArray 32)=w5:=⟨_,rfl⟩
  obtain ⟨br,hbr⟩:∃ br,w4.heap.size=br:=⟨_,rfl⟩
  rw [hw5,hbr]
  have hb5:Below w3.heap.size w3 w5:=by rw [← hw5];exact hb4.alloc hb4.size _
  have hr5:w5.rangeAt br 0 (z00 R)∧br<w5.heap.size:=by rw [← hw5,← hbr];exact ⟨z0E (Has.new _ _ _),by simp⟩
  have hbw5:Below w.heap.size w w5:=R3.out.2.1.trans (hb5.mono R3.out.2.1.size)
  have hP5:=R3.out.2.2.1.keep hb5
  have R5:Aside (HX.FOREST w5 w.heap.size g d 3 n C hs∧Below w.heap.size w w5∧Has w5 bp #[.int .u64 (m:Int),.int .u64 (i:Int),.slice a2 k c2] 27∧Flat w5 a2 k l∧k≤188∧w5.rangeAt br 0 (z00 R)∧br<w5.heap.size):=⟨R3.out.1.below hb5,hbw5,hP5,R3.out.2.2.2.1.below hb5,R3.out.2.2.2.2,hr5⟩
  have x0:w5.cell? ⟨bp,0,none⟩=some (.int .u64 (m:Int)):=hP5.cell 0
  have x1:w5.cell? ⟨bp,1,none⟩=some (.int .u64 (i:Int)):=hP5.cell 1
  have x2:w5.cell? ⟨bp,2,none⟩=some (.slice a2 k c2):=hP5.cell 2
  have cE:=zbB m i (by have:=HA.out;omega) (by have:=HA.out;omega) a2 k c2 (by have:=R5.out.2.2.2.2.1;omega) l w5 R5.out.2.2.2.1 (HT.out _ hbw5).1 (HT.out _ hbw5).2.2.1
  rw [B1.out.1] at cE
  clear hw5 hbr hb5 hr5 hbw5 hP5 R3 hb4
  go_wp2_with fail
  refine cE.mono ?_
  rintro e W0 ⟨v,rfl,o6,hb6⟩
  clear cE x0 x1 x2
  (try dsimp only at o6)
  obtain ⟨bn,hbn⟩:∃ bn,bl.length=bn:=⟨_,rfl⟩
  rw [hbn] at o6
  obtain ⟨ad,bc,rfl,hbc,hgb⟩:=z3T o6
  obtain ⟨gb,rfl, -, -⟩:=hgb (by have:=B1.out.2.2.2.2.2.2.1;omega)
  clear hgb
  have hB0:Bytes W0 (some ⟨gb,0,none⟩) bn bl:=(z1c o6 B1.out.2.2.2.2.2.2.2.2.1).1
  have L0:Aside (∀ W,Below W0.heap.size W0 W→Below w.heap.size w W∧W.rangeAt br 0 (z00 R)∧W.rangeAt lb (lo+i*32) (z00 L)∧Bytes W (some ⟨gb,0,none⟩) bn bl∧Tabled W∧HX.Tabled W∧2<W.heap.size∧Has W bp #[.int .u64 (m:Int),.int .u64 (i:Int),.slice a2 k c2] 27∧Flat W a2 k l∧HX.FOREST W w.heap.size g d 3 n C hs∧br<W0.heap.size):=fun W h=>by
    have h5:Below w5.heap.size w5 W:=hb6.trans (h.mono hb6.size)
    have h1:Below w.heap.size w W:=R5.out.2.1.trans (h5.mono R5.out.2.1.size)
    have h2:=HT.out W h1
    exact ⟨h1,z0O R5.out.2.2.2.2.2.1 h5 R5.out.2.2.2.2.2.2,h2.2.2.2.2,hB0.below h,h2.1,h2.2.1,h2.2.2.2.1,R5.out.2.2.1.keep h5,R5.out.2.2.2.1.below h5,R5.out.1.below h5,Nat.lt_of_lt_of_le R5.out.2.2.2.2.2.2 hb6.size⟩
  have HA2:Aside (m≤1000∧i≤1000):=by have:=HA.out;exact ⟨by omega,by omega⟩
  have HK:Aside (k≤188∧bn≤bc∧bn≤10000):=⟨R5.out.2.2.2.2.1,hbc,by rw [← hbn];exact B1.out.2.2.2.2.2.2.2.1⟩
  have CA:Aside (∀ W,Below W0.heap.size W0 W→Calls Tryz.prog 15 #[] W fun e w'=>e=.returned (.bool true)∧Below w.heap.size w w'):=fun W h=>by
    have hL:=L0.out W h
    refine (zcv W hL.2.2.2.2.1 hL.2.2.2.2.2.1 hL.2.2.2.2.2.2.1).mono ?_
    rintro e w' ⟨rfl,hb⟩
    exact ⟨rfl,hL.1.trans (hb.mono hL.1.size)⟩
  clear hB0 o6 hb6 hbc R5 HT hbn
  have hS:∀ W,Below W0.heap.size W0 W→W.rangeAt br 0 (z00 R)∧W.rangeAt lb (lo+i*32) (z00 L):=fun W h=>⟨(L0.out W h).2.1,(L0.out W h).2.2.1⟩
  have cm:∀ (N j:Nat) (E:Int),N<2 ^ 64→MEMA d R N j L bl=E→∀ W,Below W0.heap.size W0 W→Calls Tryz.prog 10 #[.int .i64 d,.agg (z00 R).toArray,.int .u64 (N:Int),.int .u64 (j:Int),.agg (z00 L).toArray,.slice (some ⟨gb,0,none⟩) bn bc] W fun e w'=>e=.returned (.int .i64 E)∧Below W0.heap.size W0 w':=fun N j E hN hE W h=>by
    have hL:=L0.out W h
    refine (z4a d R HI.out.1 N j hN L HI.out.2 _ bn bc (by have:=HK.out;omega) HK.out.2.1 bl W hL.2.2.2.1 hL.2.2.2.2.1 hL.2.2.2.2.2.1 hL.2.2.2.2.2.2.1).mono ?_
    rintro e w' ⟨rfl,hb⟩
    exact ⟨by rw [hE],h.trans (hb.mono h.size)⟩
  have c0:=cm m i 0 (by have:=HA2.out;omega) B1.out.2.1
  have c30:=cm (m+1) i 30 (by have:=HA2.out;omega) (B1.out.2.2.1 R L)
  have c32:=cm m (i+1) 32 (by have:=HA2.out;omega) (B1.out.2.2.2.1 R L)
  clear cm
  go_upto_region 9 with fail
  refine ze9 W0 d lb lo n c i m br gb bn bc R L lR lL hi2 (fun W=>Below W0.heap.size W0 W) (Below.refl _ _).drew hS c0 (fun _ _ _ _ _ h=>h) ?_
  intro W1 hW1
  dsimp only
  clear c0
  go_upto_region 11 with fail
  obtain ⟨N,hN⟩:∃ N,PC m=N:=⟨_,rfl⟩
  have cc:∀ W,Below W0.heap.size W0 W→Calls Tryz.prog 11 #[.int .i64 d,.agg (z00 L).toArray,.agg #[.int .u64 (m:Int),.int .u64 (i:Int),.slice a2 k c2]] W fun e w'=>∃ ax cx,e=.returned (.tuple #[.slice ax N cx,.int .i64 0])∧(Below W0.heap.size W0 w'∧w'.ownsRow W0.heap.size 32 32 (.slice ax N cx) N (z00 PL)):=fun W h=>by
    have hL:=L0.out W h
    have h1:=z4Z d L HI.out.2 m i a2 k c2 l W hL.2.2.2.2.2.2.2.2.1 hL.2.2.2.2.1 hL.2.2.2.2.2.1 hL.2.2.2.2.2.2.1
    rw [B1.out.2.2.2.2.1,hN] at h1
    refine h1.mono ?_
    rintro e w' ⟨ax,cx,rfl,ho,hb⟩
    exact ⟨ax,cx,rfl,h.trans (hb.mono h.size),z0Y ho h.size⟩
  have hS2:∀ W,Below W0.heap.size W0 W→W.rangeAt lb (lo+i*32) (z00 L)∧W.cell? ⟨bp,0,none⟩=some (.int .u64 (m:Int))∧W.cell? ⟨bp,1,none⟩=some (.int .u64 (i:Int))∧W.cell? ⟨bp,2,none⟩=some (.slice a2 k c2):=fun W h=>by
    have hL:=L0.out W h
    exact ⟨hL.2.2.1,hL.2.2.2.2.2.2.2.1.cell 0,hL.2.2.2.2.2.2.2.1.cell 1,hL.2.2.2.2.2.2.2.1.cell 2⟩
  refine zcG W1 d lb lo n c i m bp a2 k c2 N L lL hi2 (fun W=>Below W0.heap.size W0 W) (fun ax cx W=>Below W0.heap.size W0 W∧W.ownsRow W0.heap.size 32 32 (.slice ax N cx) N (z00 PL)) hW1.drew hS2 (fun _ _ W h=>hS2 W h.1) cc (fun _ _ _ _ _ h=>h) ?_
  intro ax cx W2 hW2
  dsimp only
  clear cc hS2 hW1
  have cB:=zbV d m (by have:=HA2.out;omega) ax N cx PL W2 (z2i hW2.2 B1.out.2.2.2.2.2.2.2.2.2.2) (L0.out W2 hW2.1).2.2.2.2.2.1
  rw [← hN,B1.out.2.2.2.2.2.1,hN] at cB
  dsimp only at cB
  have HN:Aside (PC m=N∧N≤64):=⟨hN,by rw [← hN];exact B1.out.2.2.2.2.2.2.2.2.2.1⟩
  clear hN
  go_wp2_with fail
  refine cB.mono ?_
  rintro e W3 ⟨rfl,hb3⟩
  clear cB
  go_upto_region 13 with (first
    | (refine wpList_store_row rfl 32 (.tmp 18) (.tmp 97) rfl _ _ rfl rfl 32 _ (Has.new W3 _ _) (z0a lR) (by simp [z00,lR]) (z0i R) ?_;rw [World.setRow_alloc_new])
    | fail)
  obtain ⟨W4,hW4e⟩:∃ W4,W3.alloc (.cells (z00 R).toArray 32)=W4:=⟨_,rfl⟩
  obtain ⟨bz,hbz⟩:∃ bz,W3.heap.size=bz:=⟨_,rfl⟩
  rw [hW4e,hbz]
  have hb4:Below W2.heap.size W2 W4:=by rw [← hW4e];exact hb3.alloc hb3.size _
  have kz:Has W4 bz (z00 R).toArray 32:=by rw [← hW4e,← hbz];exact Has.new _ _ _
  have hW4:Below W0.heap.size W0 W4:=hW2.1.trans (hb4.mono hW2.1.size)
  have kr:W4.rangeAt br 0 (z00 R):=(L0.out W4 hW4).2.1
  have R4:Aside (W4.ownsRow W0.heap.size 32 32 (.slice ax N cx) N (z00 PL)∧Below W0.heap.size W0 W4):=⟨z0u hW2.2 hb4,hW4⟩
  have q1:∀ w,(Op.equalIn 10000 32 (.agg (z00 R).toArray) (.agg (z00 R).toArray)).run Tryz.prog w=.ok true w:=fun w=>by rw [zbW HI.out.1 HI.out.1 w];simp
  clear hW4e hbz hb4 hb3 hW2
  by_cases hmn:m=n
  · have hc:((m:Int) == (n:Int))=true:=by rw [HCM.out,decide_eq_true hmn]
    have cP:=HX.ze5 (L0.out W4 hW4).2.2.2.2.2.2.2.2.2.1 (L0.out W4 hW4).2.2.2.2.1
    have HMN:Aside (m=n):=hmn
    clear hmn hW4
    go_wp2_with (first
      | (refine z1u (by rfl) 32 (.tmp 18) rfl 32 5 bz rfl 32 (z00 R).toArray (0,0) kz Tryz.underlying32 (z0a lR) ?_)
      | (refine z4g (by rfl) 32 (.tmp 12) rfl br 0 rfl (z00 R) _ kr Tryz.underlying32 rfl (z0c lR) ?_)
      | fail)
    refine cP.mono ?_
    rintro e W5 ⟨v,rfl,o5,hb5⟩
    clear cP kz kr q1
    rw [hKL.out HMN.out,← HMN.out,HN.out.1] at o5
    obtain ⟨ay,cy,rfl, -, -⟩:=z3T o5
    have hW5:Below W0.heap.size W0 W5:=R4.out.2.trans (hb5.mono R4.out.2.size)
    have cS:=z6M ax ay N N cx cy PL PL W5 (z2i (z0u R4.out.1 hb5) B1.out.2.2.2.2.2.2.2.2.2.2) (z2i o5 B1.out.2.2.2.2.2.2.2.2.2.2) (by have:=HN.out;omega)
    rw [decide_eq_true rfl] at cS
    clear o5 hb5 R4
    go_wp2_with fail
    refine cS.mono ?_
    rintro e W6 ⟨rfl,hb6⟩
    clear cS
    have hW6:Below W0.heap.size W0 W6:=hW5.trans (hb6.mono hW5.size)
    clear hW5 hb6
    go_upto_region 17 with fail
    refine z6I W6 d lb lo n c i m br gb bn bc R L lR lL hi2 (z1Z HA2.out.1) (z1Z HA2.out.2) (fun W=>Below W0.heap.size W0 W) hW6.drew hS c30 c32 (fun _ _ _ _ _ h=>h) ?_
    intro W9 hW9
    dsimp only
    have ca:=CA.out W9 hW9
    clear c30 c32 hS hW6 hW9 L0 HI B1 HA HA2 HCM hKL CA
    go_wp2_with fail
    refine ca.mono ?_
    rintro e w9 ⟨rfl,hb9⟩
    clear ca
    go_wp2
    go_ret
    exact ⟨rfl,hb9⟩
  · have hc:((m:Int) == (n:Int))=false:=by rw [HCM.out,decide_eq_false hmn]
    clear hmn
    go_upto_region 17 with (first
      | (refine z1u (by rfl) 32 (.tmp 18) rfl 32 5 bz rfl 32 (z00 R).toArray (0,0) kz Tryz.underlying32 (z0a lR) ?_)
      | (refine z4g (by rfl) 32 (.tmp 12) rfl br 0 rfl (z00 R) _ kr Tryz.underlying32 rfl (z0c lR) ?_)
      | fail)
    clear kz kr q1 R4
    refine z6I W4 d lb lo n c i m br gb bn bc R L lR lL hi2 (z1Z HA2.out.1) (z1Z HA2.out.2) (fun W=>Below W0.heap.size W0 W) hW4.drew hS c30 c32 (fun _ _ _ _ _ h=>h) ?_
    intro W9 hW9
    dsimp only
    have ca:=CA.out W9 hW9
    clear c30 c32 hS hW4 hW9 L0 HI B1 HA HA2 HCM hKL CA
    go_wp2_with fail
    refine ca.mono ?_
    rintro e w9 ⟨rfl,hb9⟩
    clear ca
    go_wp2
    go_ret
    exact ⟨rfl,hb9⟩
theorem z4h (d:Int) (a:Option Addr) (n c i m:Nat) (hs:Nat→Nat→Nat) (w:World) (hH:HX.HASHES w a n hs) (h8:∀ i,i<n→∀ j,hs i j<256) (hT:Tabled w) (hX:HX.Tabled w) (h0:2<w.heap.size):Calls Tryz.prog 3 #[.int .i64 d,.slice a n c,.int .u64 (i:Int),.int .u64 (m:Int)] w fun e w'=>e=.returned (.bool true)∧Below w.heap.size w w':=by
  by_cases hn:(300:Int)<(n:Int)
  · exact z80 d a n c i m w hn
  · by_cases hm:n<m
    · exact z8J d a n c i m w hn hm
    · by_cases hi:m≤i
      · exact z8K d a n c i m w hn (by omega) hi
      · exact z81 d a n c i m hs w hn (by omega) (by omega) hH h8 hT hX h0
end Go.Proofs.YthjeeblddipiiaaGreatDoor

namespace Go.Proofs.YthjeeblddipiiaaGreatDoor
open Go.ChangeShapes Go.WideShapes Go.ChangeAt Go.WideMaps Go.WideElems Go.RowKit
set_option maxRecDepth 100000
theorem own:ownKnob Tryz.prog.godebug=none:=by kernel_rfl
theorem z9x:laidOutB Tryz.prog=true:=by kernel_rfl
theorem gTab:Tryz.prog.globalNamed "math/bits.deBruijn64tab"=some 0:=by kernel_rfl
theorem tTab:(Tryz.prog.globals[0]?).map (·.type)=some 157:=by kernel_rfl
theorem zfo {H:Type}:(Rows.laid_math_bits_deBruijn64tab:DataW H)=.agg (TAB.map fun n=>.lit (.int .u8 (n:Nat))):=rfl
end Go.Proofs.YthjeeblddipiiaaGreatDoor

namespace Go.Proofs.YthjeeblddipiiaaGreatDoor.HX
set_option maxRecDepth 100000
open Go.ChangeShapes Go.WideShapes Go.ChangeAt Go.WideMaps Go.WideElems Go.RowKit
theorem own:ownKnob Tryz.prog.godebug=none:=by kernel_rfl
theorem z9x:laidOutB Tryz.prog=true:=by kernel_rfl
theorem gRounds:Tryz.prog.globalNamed "massif/hash.rounds"=some 2:=by kernel_rfl
theorem gBegin:Tryz.prog.globalNamed "massif/hash.begin"=some 1:=by kernel_rfl
theorem tRounds:(Tryz.prog.globals[2]?).map (·.type)=some 174:=by kernel_rfl
theorem tBegin:(Tryz.prog.globals[1]?).map (·.type)=some 172:=by kernel_rfl
theorem zaY {H:Type}:(Rows.laid_massif_hash_rounds:DataW H)=.agg (KLIST.map fun n=>.lit (.int .u32 (n:Nat))):=rfl
theorem zcH {H:Type}:(Rows.laid_massif_hash_begin:DataW H)=.agg (BEGIN.map fun n=>.lit (.int .u32 (n:Nat))):=rfl
theorem z82 {H:Type} {enc:TypeId × Value→H} {W:World} {base fuel n:Nat} {sp:Nat→Bool} {held:Bool} {t:TypeId} {cs:List Value} {ps:List MemPlace} (L:List Nat) (hL:L.length=n) (ht:Tryz.prog.underlying t=some (.array n 171))
    (hd:DataW.trod enc Tryz.prog W base sp held fuel t cs=some (.agg (L.map fun n=>.lit (.int .u32 (n:Nat))),ps)) (i:Nat) (hi:i<n):cs[i]?=some (.int .u32 (L.getD i 0:Nat)):=by
  obtain ⟨xs,m1,rfl,hx1,hlen,hn,hel⟩:=DataW.trod_array ht hd
  have c5:Tryz.prog.cellsOf 171=1:=by kernel_rfl
  simp only [Prod.mk.injEq,DataW.agg.injEq] at hx1
  have hx:=hx1.1
  have h0:=hel i hi
  have hi':i<xs.length:=by omega
  rw [List.getElem?_eq_getElem hi',c5,Nat.mul_one] at h0
  obtain ⟨k,e1,e2,_⟩:=DataW.trod_int Tryz.underlying171 h0
  have hk:(k:Int)=((L.getD i 0:Nat):Int):=by
    have hz:=congrArg (fun l=>l[i]?) hx
    have hT:i<L.length:=by omega
    simp only [List.getElem?_map,List.getElem?_eq_getElem hi',List.getElem?_eq_getElem hT,Option.map_some,e2] at hz
    simp at hz
    rw [List.getD_eq_getElem?_getD,List.getElem?_eq_getElem hT]
    simpa using hz.symm
  rw [← hk]
  have:=congrArg (fun l=>l[0]?) e1
  simpa using this
end Go.Proofs.YthjeeblddipiiaaGreatDoor.HX

namespace Go.Proofs.YthjeeblddipiiaaGreatDoor.HX
open Go.ChangeShapes Go.WideShapes Go.ChangeAt Go.WideMaps Go.WideElems Go.RowKit
set_option maxRecDepth 100000
theorem zea {W:World} (h:laidMetH Tryz.prog [("math/bits.deBruijn64tab",Rows.laid_math_bits_deBruijn64tab),("massif/hash.begin",Rows.laid_massif_hash_begin),("massif/hash.rounds",Rows.laid_massif_hash_rounds)] W):Go.Proofs.YthjeeblddipiiaaGreatDoor.Tabled W∧Tabled W∧2<W.heap.size:=by
  rw [MakeChecks.laidMetH_plain _ _ _ (by kernel_rfl)] at h
  obtain ⟨ps,⟨g0,t0,cs0,f0,p0,q0,hg0,ht0,hv0,hd0,⟨g1,t1,cs1,f1,p1,q1,hg1,ht1,hv1,hd1,⟨g2,t2,cs2,f2,p2,q2,hg2,ht2,hv2,hd2,_,_⟩,_⟩,_⟩,_,_⟩:=h
  obtain rfl:=Option.some.inj (gTab.symm.trans hg0)
  obtain rfl:=Option.some.inj (tTab.symm.trans ht0)
  obtain rfl:=Option.some.inj (gBegin.symm.trans hg1)
  obtain rfl:=Option.some.inj (tBegin.symm.trans ht1)
  obtain rfl:=Option.some.inj (gRounds.symm.trans hg2)
  obtain rfl:=Option.some.inj (tRounds.symm.trans ht2)
  rw [zcH] at hd1
  rw [zaY] at hd2
  have A:∀ i,i<8→W.cell? ⟨1,i,none⟩=some (.int .u32 (BEGIN.getD i 0:Nat)):=fun i hi=>(World.var?_cell hg1 hv1 i).trans (Array.getElem?_toList.symm.trans (z82 BEGIN rfl Tryz.underlying172 hd1 i hi))
  have B:∀ i,i<64→W.cell? ⟨2,i,none⟩=some (.int .u32 (KC i:Nat)):=fun i hi=>(World.var?_cell hg2 hv2 i).trans (Array.getElem?_toList.symm.trans (z82 KLIST rfl Tryz.underlying174 hd2 i hi))
  obtain ⟨xs,m1,rfl,hx1,hlen,hn,hel⟩:=DataW.trod_array Tryz.underlying157 hd0
  have c5:Tryz.prog.cellsOf 5=1:=by kernel_rfl
  simp only [Prod.mk.injEq] at hx1
  have hx:=hx1.1
  rw [zfo] at hx
  simp only [DataW.agg.injEq] at hx
  have T:Go.Proofs.YthjeeblddipiiaaGreatDoor.Tabled W:=fun i hi=>by
    have h0:=hel i hi
    have hi':i<xs.length:=by omega
    rw [List.getElem?_eq_getElem hi',c5,Nat.mul_one] at h0
    obtain ⟨k,e1,e2,_⟩:=DataW.trod_int Tryz.underlying5 h0
    have hk:(k:Int)=((TAB.getD i 0:Nat):Int):=by
      have hz:=congrArg (fun l=>l[i]?) hx
      have hT:i<TAB.length:=hi
      simp only [List.getElem?_map,List.getElem?_eq_getElem hi',List.getElem?_eq_getElem hT,Option.map_some,e2] at hz
      simp at hz
      rw [List.getD_eq_getElem?_getD,List.getElem?_eq_getElem hT]
      simpa using hz.symm
    have hv:=World.var?_cell hg0 hv0 i
    rw [hv,← hk]
    have:=congrArg (fun l=>l[0]?) e1
    simp at this
    simpa using this
  have z0:0<W.heap.size:=World.block_lt_of_cell? W _ (T 0 (by decide))
  have z1:1<W.heap.size:=World.block_lt_of_cell? W _ (A 0 (by decide))
  have z2:2<W.heap.size:=World.block_lt_of_cell? W _ (B 0 (by decide))
  exact ⟨T,⟨B,A,by omega⟩,by omega⟩
theorem zcI {H:Type} {enc:TypeId × Value→H} {W:World} {fuel:Nat} {cs:List Value} {x:DataW H × List MemPlace} (hf:DataW.trod enc Tryz.prog W 0 (fun _=>true) true fuel 32 cs=some x):∃ h:Nat→Nat,(∀ i,h i<256)∧cs=z01 .u8 32 h:=by
  obtain ⟨xs,m,rfl,_,hl,hn,hel⟩:=DataW.trod_array Tryz.underlying32 hf
  have c5:Tryz.prog.cellsOf 5=1:=by kernel_rfl
  have c32:Tryz.prog.cellsOf 32=32:=by kernel_rfl
  rw [c32] at hl
  have hx:∀ i,i<32→∃ k:Nat,cs[i]?=some (.int .u8 (k:Int))∧k<256:=fun i hi=>by
    have h0:=hel i hi
    rw [List.getElem?_eq_getElem (by omega),c5,Nat.mul_one] at h0
    obtain ⟨k,e1,_,e3⟩:=DataW.trod_int Tryz.underlying5 h0
    have hb:=bounds_u8 e3
    refine ⟨k.toNat,?_,by omega⟩
    have:=congrArg (fun l=>l[0]?) e1
    rw [Int.toNat_of_nonneg hb.1]
    simpa using this
  have F:∃ f:Nat→Nat,(∀ i,f i<256)∧∀ i,i<32→cs[i]?=some (.int .u8 ((f i:Nat):Int)):=by
    refine ⟨fun i=>if hi:i<32 then (hx i hi).choose else 0,fun i=>?_,fun i hi=>?_⟩
    · by_cases hi:i<32
      · simp only [hi,dif_pos];exact (hx i hi).choose_spec.2
      · simp only [hi,dif_neg,not_false_iff];decide
    · simp only [hi,dif_pos];exact (hx i hi).choose_spec.1
  obtain ⟨f,hf1,hf2⟩:=F
  refine ⟨f,hf1,?_⟩
  apply List.ext_getElem?
  intro i
  by_cases hi:i<32
  · rw [hf2 i hi,z0R _ _ _ _ hi]
  · rw [List.getElem?_eq_none (by omega),List.getElem?_eq_none (by rw [z08];omega)]
theorem z8L {H:Type} {enc:TypeId × Value→H} {W:World} {a:Option Addr} {k c:Nat} {d:DataW H} {ps:List MemPlace} (hd:DataW.Trod enc Tryz.prog W 0 (fun _=>true) true 22 (.slice a k c) d ps):
    ∃ hs:Nat→Nat→Nat,(∀ i,i<k→∀ j,hs i j<256)∧HASHES W a k hs:=by
  obtain ⟨fuel,hf⟩:=hd
  rcases DataW.trod_slice Tryz.underlying22 hf with ⟨h0,_⟩ | ⟨ad,len,cap,elems,rest,n,_,h0,hx,_,hl,hm,hlen,hel,_,_⟩
  · simp [Value.cells] at h0
    obtain ⟨rfl,rfl,rfl⟩:=h0
    exact ⟨fun _ _=>0,fun i hi=>by omega,fun h=>by omega⟩
  · simp [Value.cells] at h0
    obtain ⟨rfl,rfl,rfl⟩:=h0
    have c32:Tryz.prog.cellsOf 32=32:=by kernel_rfl
    have each:∀ i,i<k→∃ h:Nat→Nat,(∀ j,h j<256)∧∀ j,j<32→W.cell? ((ad.add (i*32)).add j)=some (.int .u8 ((h j:Nat):Int)):=fun i hi=>by
      have h:=hel i hi
      rw [List.getElem?_eq_getElem (by omega),c32,Option.bind_eq_some_iff] at h
      obtain ⟨cs,hcs,ht⟩:=h
      obtain ⟨f,h1,rfl⟩:=zcI ht
      have hs:=(World.cells?_some hcs).2.2
      refine ⟨f,h1,fun j hj=>?_⟩
      have s:=hs j hj
      rw [s]
      exact z0R .u8 32 f j hj
    have F:∃ f:Nat→Nat→Nat,∀ i,i<k→(∀ j,f i j<256)∧∀ j,j<32→W.cell? ((ad.add (i*32)).add j)=some (.int .u8 ((f i j:Nat):Int)):=by
      refine ⟨fun i=>if hi:i<k then (each i hi).choose else fun _=>0,fun i hi=>?_⟩
      simp only [hi,dif_pos]
      exact (each i hi).choose_spec
    obtain ⟨f,hf2⟩:=F
    refine ⟨f,fun i hi=>(hf2 i hi).1,fun h0k=>?_⟩
    obtain ⟨b,off,spot⟩:=ad
    have hc:=(hf2 0 h0k).2 0 (by decide)
    have hspot:spot=none:=by simpa [Addr.add] using World.cell?_spot hc
    subst hspot
    refine ⟨b,off,rfl,?_,fun i hi j v hv=>?_⟩
    · have:=World.block_lt_of_cell? W _ hc
      simpa [Addr.add] using this
    · have hj:j<32:=by have:=(List.getElem?_eq_some_iff.1 hv).1;rw [z08] at this;exact this
      have h1:=(hf2 i hi).2 j hj
      rw [z1h,z1h] at h1
      rw [z0R _ _ _ _ hj] at hv
      rw [h1,← hv]
end Go.Proofs.YthjeeblddipiiaaGreatDoor.HX
