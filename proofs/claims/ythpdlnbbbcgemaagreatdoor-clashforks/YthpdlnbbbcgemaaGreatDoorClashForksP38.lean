/- Texts of ClashForks, one behind the other: VerifyRefPrefix, ClashForkPlain, CarryEqual, ClashSame, VerifyLast8, VerifyJoinsPick. -/
import Derived.Test.YthpdlnbbbcgemaaGreatDoorClashForksP35
import Derived.Test.YthpdlnbbbcgemaaGreatDoorClashForksP36
import Derived.Test.YthpdlnbbbcgemaaGreatDoorClashForksP37
namespace Go.Proofs.YthpdlnbbbcgemaaGreatDoor
open Go.RowKit
set_option maxRecDepth 100000
set_option maxHeartbeats 4000000 in
theorem z9p (d:Int) (a:Option Addr) (c:Nat) (w:World):
    Calls Tryz.prog 15 #[.int .i64 d,.int .u64 ((0:Nat):Int),.slice a 0 c] w fun e w'=>e=.returned (.tuple #[.agg (z01 (z0C d 0 ZND)).toArray,.int .i64 0])∧Below w.heap.size w w':=by
  obtain ⟨w0,hw0⟩:∃ w0,w.alloc (.cells ZARR 24)=w0:=⟨_,rfl⟩
  have hb0:Below w.heap.size w w0:=by rw [← hw0];exact (Below.refl _ _).alloc (Nat.le_refl _) _
  have h40:Has w0 w.heap.size (z01 ZND).toArray 24:=by rw [← hw0,← z1L];exact Has.new w _ _
  have co:=z5W 0 (by omega) w0
  rw [show PC 0=0 from rfl] at co
  have CR:Aside (∀ W,Calls Tryz.prog 34 #[.int .i64 d,.int .u64 0,.agg (z01 ZND).toArray] W fun e w'=>e=.returned (.agg (z01 (z0C d 0 ZND)).toArray)∧Below W.heap.size W w'):=fun W=>z5x d 0 (by omega) ZND z3S W
  have hYH:IsH (z0C d 0 ZND):=z2D _ _ _
  generalize z0C d 0 ZND=Y at *
  have y32:=hYH.1
  have R0:Aside (Below w.heap.size w w0∧Has w0 w.heap.size (z01 ZND).toArray 24):=⟨hb0,h40⟩
  clear hb0 h40 hYH
  go_enter Tryz.func15,Tryz.ntmps15
  go_upto_region 1 with fail
  go_wp2_with fail
  refine co.mono ?_
  rintro e w1 ⟨a1,c1,rfl,_,hb1⟩
  have R1:Aside (Below w.heap.size w w1∧Has w1 w.heap.size (z01 ZND).toArray 24):=⟨R0.out.1.trans (hb1.mono R0.out.1.size),R0.out.2.keep hb1⟩
  clear co hb1 R0 hw0
  have cr:=CR.out w1
  go_wp2_with fail
  refine cr.mono ?_
  rintro e w2 ⟨rfl,hb2⟩
  have h42:=R1.out.2.keep hb2
  have hb3:Below w.heap.size w w2:=R1.out.1.trans (hb2.mono R1.out.1.size)
  clear hb2 R1 cr CR
  go_wp2_with (refine wpList_store_row rfl 24 (.tmp 6) (.tmp 25) rfl _ _ rfl rfl 24 _ h42 (z02 y32) (by simp [z01,y32];rfl) (z0m Y) ?_)
  refine bodyPost_ret (v:=.tuple #[.agg (z01 Y).toArray,.int .i64 0]) (z1y rfl _ _ w.heap.size 24 _ (0,0) _ _ _ rfl rfl (Has.row h42 _) Tryz.underlying24 (z02 y32)) rfl ⟨rfl,z0d hb3 (Nat.le_refl _) _⟩
theorem z5y (d:Int) (n:Nat) (hn:n≤4611686018427387904) (a:Option Addr) (k c:Nat) (hk:k=PC n) (l:List Int) (w:World) (hF:Flat w a k l):
    Calls Tryz.prog 15 #[.int .i64 d,.int .u64 (n:Int),.slice a k c] w fun e w'=>e=.returned (.tuple #[.agg (z01 (z0C d n (FLD d l k))).toArray,.int .i64 0])∧Below w.heap.size w w':=by
  by_cases h0:k=0
  · have hn0:n=0:=z1Z (by omega)
    subst h0 hn0
    have e:FLD d l 0=ZND:=by unfold FLD;rw [if_pos rfl]
    rw [e]
    exact z9p d a c w
  · exact zc4 d n hn a k c hk h0 l w hF
theorem z7T {b t:List Int} (hr:∀ x∈b,0≤x∧x≤255) {F S N:Nat} (hF:F<2 ^ 64) (hS:S<2 ^ 64) (h:DEX b=(0,F,S,N,t)):F≤S∧S≤4611686018427387904∧N=(PXS F S).length:=by
  obtain ⟨_,h3,h4,_⟩:=zdn hF hS (z5a hr h)
  have hb:F≤S∧S≤4611686018427387904:=by
    unfold PPA at h3
    split at h3
    · simp at h3
    · omega
  have hPL:PPA F S=(0,PLCS (PXS F S)):=by
    unfold PPA
    rw [if_neg (by omega)]
  refine ⟨hb.1,hb.2,?_⟩
  rw [h4,hPL]
  exact z0N _
set_option maxHeartbeats 8000000 in
theorem z4s (d:Int) (m:Nat) (r1:List Int) (hr1:IsH r1) (n:Nat) (r2:List Int) (hr2:IsH r2) (ba:Option Addr) (bn bc:Nat) (hbn:bn≤1000000) (hbc:bn≤bc) (bl:List Int) (t:Nat) (hLW:LOWS (DEX bl).2.1 t) (w:World) (hB:Bytes w ba bn bl) (hF:(DEX bl).2.1<2 ^ 64) (hS:(DEX bl).2.2.1<2 ^ 64):
    Calls Tryz.prog 7 #[.int .i64 d,.int .u64 (m:Int),.agg (z01 r1).toArray,.int .u64 (n:Int),.agg (z01 r2).toArray,.slice ba bn bc] w fun e w'=>e=.returned (.int .i64 (PFXA d (JSX (DEX bl).2.1 (DEX bl).2.2.1 t) m r1 n r2 bl))∧Below w.heap.size w w':=by
  have l1:=hr1.1
  have l2:=hr2.1
  obtain ⟨W0,hW0⟩:∃ W0,(w.alloc (.cells (z01 r1).toArray 24)).alloc (.cells (z01 r2).toArray 24)=W0:=⟨_,rfl⟩
  obtain ⟨b8,hb8⟩:∃ b,w.heap.size=b:=⟨_,rfl⟩
  obtain ⟨b10,hb10⟩:∃ b,b8+1=b:=⟨_,rfl⟩
  have R0:Aside (Below w.heap.size w W0∧Has W0 b8 (z01 r1).toArray 24∧Has W0 b10 (z01 r2).toArray 24):=by
    rw [← hW0,← hb10,← hb8]
    exact ⟨((Below.refl _ _).alloc (Nat.le_refl _) _).alloc (by simp) _,(Has.new _ _ _).alloc _,Has.at _ _ _ (by simp)⟩
  have cd:=z52 ba bn bc hbn bl W0 (hB.below R0.out.1) hbc
  have hth:(DEX bl).1=0→(DEX bl).2.1≤(DEX bl).2.2.1∧(DEX bl).2.2.1≤4611686018427387904∧(DEX bl).2.2.2.1=(PXS (DEX bl).2.1 (DEX bl).2.2.1).length:=fun h=>z7T hB.2.2 hF hS (t:=(DEX bl).2.2.2.2) (by rw [← h])
  unfold PFXA
  unfold DECF at cd
  generalize DEX bl=D at *
  obtain ⟨E,F,S,N,L⟩:=D
  dsimp only at *
  have HA:Aside (IsH r1∧IsH r2∧(E=0→F≤S∧S≤4611686018427387904∧N=(PXS F S).length)∧LOWS F t∧F<2 ^ 64∧S<2 ^ 64):=⟨hr1,hr2,hth,hLW,hF,hS⟩
  clear hr1 hr2 hbn hbc hB hth hF hS hLW
  obtain ⟨V,hV⟩:∃ V,(if E≠0 then E else if F≠m then 30 else if S≠n then 30 else if UNDA d m (RCA d (JSX F S t) F S N L).2.1.1 (RCA d (JSX F S t) F S N L).2.1.2 r1≠0 then UNDA d m (RCA d (JSX F S t) F S N L).2.1.1 (RCA d (JSX F S t) F S N L).2.1.2 r1 else UNDA d n (RCA d (JSX F S t) F S N L).2.2.1 (RCA d (JSX F S t) F S N L).2.2.2 r2)=V:=⟨_,rfl⟩
  rw [hV]
  have HV:Aside ((¬ E=0→V=E)∧(E=0→¬ F=m→V=30)∧(E=0→F=m→¬ S=n→V=30)∧(E=0→F=m→S=n→V=if UNDA d m (RCA d (JSX F S t) F S N L).2.1.1 (RCA d (JSX F S t) F S N L).2.1.2 r1≠0 then UNDA d m (RCA d (JSX F S t) F S N L).2.1.1 (RCA d (JSX F S t) F S N L).2.1.2 r1 else UNDA d n (RCA d (JSX F S t) F S N L).2.2.1 (RCA d (JSX F S t) F S N L).2.2.2 r2)):=by
    rw [← hV]
    exact ⟨fun h=>if_pos h,fun h h2=>by rw [if_neg (by simpa using h),if_pos h2],fun h h2 h3=>by rw [if_neg (by simpa using h),if_neg (by simpa using h2),if_pos h3],fun h h2 h3=>by rw [if_neg (by simpa using h),if_neg (by simpa using h2),if_neg (by simpa using h3)]⟩
  clear hV
  go_enter Tryz.func7,Tryz.ntmps7
  go_upto_region 1 with fail
  clear hW0
  go_wp2_with fail
  refine cd.mono ?_
  rintro e w1 ⟨a1,c1,rfl,f1,hb1,_,k1,k2⟩
  have R1:Aside (Below w.heap.size w w1∧Has w1 b8 (z01 r1).toArray 24∧Has w1 b10 (z01 r2).toArray 24∧Flat w1 a1 N L∧N≤c1∧(a1=none→c1=0)):=⟨R0.out.1.trans (hb1.mono R0.out.1.size),R0.out.2.1.keep hb1,R0.out.2.2.keep hb1,f1,k1,k2⟩
  clear cd R0 hb1 f1 hb8 hb10 k1 k2
  go_upto_region 2 with fail
  obtain ⟨w2,e2⟩:∃ w2,w1.alloc (.cells #[.int .u64 (F:Int),.int .u64 (S:Int),.slice a1 N c1] 50)=w2:=⟨_,rfl⟩
  obtain ⟨b13,hb13⟩:∃ b13,w1.heap.size=b13:=⟨_,rfl⟩
  rw [e2,hb13]
  have hb2:Below w1.heap.size w1 w2:=by rw [← e2];exact (Below.refl _ _).alloc (Nat.le_refl _) _
  have R2:Aside (Below w.heap.size w w2∧Has w2 b8 (z01 r1).toArray 24∧Has w2 b10 (z01 r2).toArray 24∧Flat w2 a1 N L∧Has w2 b13 #[.int .u64 (F:Int),.int .u64 (S:Int),.slice a1 N c1] 50∧N≤c1∧(a1=none→c1=0)):=⟨R1.out.1.trans (hb2.mono R1.out.1.size),R1.out.2.1.keep hb2,R1.out.2.2.1.keep hb2,R1.out.2.2.2.1.below hb2,by rw [← e2,← hb13];exact Has.new _ _ _,R1.out.2.2.2.2⟩
  clear e2 hb13 hb2 R1
  have hb:=R2.out.1
  by_cases hE:E=0
  · subst hE
    have p0:=R2.out.2.2.2.2.1.cell 0
    have p1:=R2.out.2.2.2.2.1.cell 1
    have p2:=R2.out.2.2.2.2.1.cell 2
    by_cases hFm:F=m
    · subst hFm
      by_cases hSn:S=n
      · subst hSn
        have hV:=HV.out.2.2.2 rfl rfl rfl
        obtain ⟨t1,t2,t3⟩:=HA.out.2.2.1 rfl
        have hfew:=z20 t1 t2
        have cc:=za6 d F S t HA.out.2.2.2.2.1 HA.out.2.2.2.2.2 HA.out.2.2.2.1 a1 N c1 (by omega) R2.out.2.2.2.2.2.1 R2.out.2.2.2.2.2.2 L w2 R2.out.2.2.2.1
        have hPL:PPA F S=(0,PLCS (PXS F S)):=by
          unfold PPA
          rw [if_neg (by omega)]
        have hRC:RCA d (JSX F S t) F S N L=(0,(PC F,CAT (RCM d (JSX F S t) F S L) (SPAN 0 F)),(PC S,CAT (RCM d (JSX F S t) F S L) (SPAN 0 S))):=by
          unfold RCA
          rw [hPL,if_neg (by simp),if_neg (by rw [z0N];simpa using t3)]
        have hrg:=z7G (d:=d) (js:=JSX F S t) (F:=F) (S:=S) R2.out.2.2.2.1.1 R2.out.2.2.2.1.2.2
        rw [hRC] at cc hrg hV
        unfold ANSR at cc
        dsimp only at hrg hV cc
        generalize CAT (RCM d (JSX F S t) F S L) (SPAN 0 F)=P at *
        generalize CAT (RCM d (JSX F S t) F S L) (SPAN 0 S)=Q at *
        have hUN:∀ z (T r:List Int),z≤4611686018427387904→UNDA d z (PC z) T r=if z0C d z (FLD d T (PC z))=r then 0 else 80:=fun z T r hz=>by
          have hBA:BAGA d z (PC z) T=(0,z0C d z (FLD d T (PC z))):=by
            unfold BAGA
            rw [if_neg (by omega),if_neg (by simp)]
          unfold UNDA
          rw [hBA]
          simp
        rw [hUN F P r1 (by omega),hUN S Q r2 t2] at hV
        have CB1:Aside (∀ W a c,Flat W a (PC F) P→Calls Tryz.prog 15 #[.int .i64 d,.int .u64 (F:Int),.slice a (PC F) c] W fun e w'=>e=.returned (.tuple #[.agg (z01 (z0C d F (FLD d P (PC F)))).toArray,.int .i64 0])∧Below W.heap.size W w'):=fun W a c hf=>z5y d F (by omega) a (PC F) c rfl P W hf
        have CB2:Aside (∀ W a c,Flat W a (PC S) Q→Calls Tryz.prog 15 #[.int .i64 d,.int .u64 (S:Int),.slice a (PC S) c] W fun e w'=>e=.returned (.tuple #[.agg (z01 (z0C d S (FLD d Q (PC S)))).toArray,.int .i64 0])∧Below W.heap.size W w'):=fun W a c hf=>z5y d S t2 a (PC S) c rfl Q W hf
        have hY1:IsH (z0C d F (FLD d P (PC F))):=z2D _ _ _
        have hY2:IsH (z0C d S (FLD d Q (PC S))):=z2D _ _ _
        generalize z0C d F (FLD d P (PC F))=Y1 at *
        generalize z0C d S (FLD d Q (PC S))=Y2 at *
        generalize PC F=mf at *
        generalize PC S=ms at *
        have HP:Aside ((∀ x∈P,0≤x∧x≤255)∧∀ x∈Q,0≤x∧x≤255):=hrg
        have HW:Aside (V=if Y1=r1 then (if Y2=r2 then 0 else 80) else 80):=by
          show V=_
          rw [hV]
          by_cases h1:Y1=r1
          · rw [if_pos h1,if_neg (by simp),if_pos h1]
          · rw [if_neg h1,if_pos (by simp),if_neg h1]
        clear t1 t2 t3 hPL hRC hrg hUN hV HV hfew
        go_wp2_with fail
        refine cc.mono ?_
        rintro e w3 ⟨a3,c3,a4,c4,rfl,o3,o4,hb3, -⟩
        have R3:Aside (Below w.heap.size w w3∧Has w3 b8 (z01 r1).toArray 24∧Has w3 b10 (z01 r2).toArray 24∧Flat w3 a3 mf P∧Flat w3 a4 ms Q):=⟨R2.out.1.trans (hb3.mono R2.out.1.size),R2.out.2.1.keep hb3,R2.out.2.2.1.keep hb3,z1U o3 HP.out.1,z1U o4 HP.out.2⟩
        clear cc o3 o4 hb3 p0 p1 p2 R2 hb HP
        have cb:=CB1.out w3 a3 c3 R3.out.2.2.2.1
        have y1:=hY1.1
        have y2:=hY2.1
        go_wp2_with fail
        refine cb.mono ?_
        rintro e w4 ⟨rfl,hb4⟩
        have R4:Aside (Below w.heap.size w w4∧Has w4 b8 (z01 r1).toArray 24∧Has w4 b10 (z01 r2).toArray 24∧Flat w4 a4 ms Q):=⟨R3.out.1.trans (hb4.mono R3.out.1.size),R3.out.2.1.keep hb4,R3.out.2.2.1.keep hb4,R3.out.2.2.2.2.below hb4⟩
        clear cb hb4 R3 CB1
        go_upto_region 8 with (refine wpList_store_row rfl 24 (.tmp 18) (.tmp 52) rfl _ _ rfl rfl 24 _ (Has.new w4 _ _) (z02 y1) (by simp [z01,y1]) (z0m Y1) ?_;rw [World.setRow_alloc_new])
        have R5:Aside (Below w.heap.size w (w4.alloc (.cells (z01 Y1).toArray 24))∧Has (w4.alloc (.cells (z01 Y1).toArray 24)) b8 (z01 r1).toArray 24∧Has (w4.alloc (.cells (z01 Y1).toArray 24)) b10 (z01 r2).toArray 24∧Flat (w4.alloc (.cells (z01 Y1).toArray 24)) a4 ms Q∧Has (w4.alloc (.cells (z01 Y1).toArray 24)) w4.heap.size (z01 Y1).toArray 24):=⟨R4.out.1.alloc R4.out.1.size _,R4.out.2.1.alloc _,R4.out.2.2.1.alloc _,R4.out.2.2.2.below ((Below.refl _ _).alloc (Nat.le_refl _) _),Has.new _ _ _⟩
        generalize w4.alloc (.cells (z01 Y1).toArray 24)=w5 at *
        generalize w4.heap.size=b18 at *
        clear R4
        have cb:=CB2.out w5 a4 c4 R5.out.2.2.2.1
        go_wp2_with fail
        refine cb.mono ?_
        rintro e w6 ⟨rfl,hb6⟩
        have R6:Aside (Below w.heap.size w w6∧Has w6 b8 (z01 r1).toArray 24∧Has w6 b10 (z01 r2).toArray 24∧Has w6 b18 (z01 Y1).toArray 24):=⟨R5.out.1.trans (hb6.mono R5.out.1.size),R5.out.2.1.keep hb6,R5.out.2.2.1.keep hb6,R5.out.2.2.2.2.keep hb6⟩
        clear cb hb6 R5 CB2
        go_upto_region 9 with (refine wpList_store_row rfl 24 (.tmp 20) (.tmp 59) rfl _ _ rfl rfl 24 _ (Has.new w6 _ _) (z02 y2) (by simp [z01,y2]) (z0m Y2) ?_;rw [World.setRow_alloc_new])
        have R7:Aside (Below w.heap.size w (w6.alloc (.cells (z01 Y2).toArray 24))∧Has (w6.alloc (.cells (z01 Y2).toArray 24)) b8 (z01 r1).toArray 24∧Has (w6.alloc (.cells (z01 Y2).toArray 24)) b10 (z01 r2).toArray 24∧Has (w6.alloc (.cells (z01 Y2).toArray 24)) b18 (z01 Y1).toArray 24∧Has (w6.alloc (.cells (z01 Y2).toArray 24)) w6.heap.size (z01 Y2).toArray 24):=⟨R6.out.1.alloc R6.out.1.size _,R6.out.2.1.alloc _,R6.out.2.2.1.alloc _,R6.out.2.2.2.alloc _,Has.new _ _ _⟩
        generalize w6.alloc (.cells (z01 Y2).toArray 24)=w7 at *
        generalize w6.heap.size=b20 at *
        clear R6
        obtain ⟨_,h8,h10,h18,h20⟩:=R7.out
        have q1:=z91 hY1 HA.out.1
        have q2:=z91 hY2 HA.out.2.1
        by_cases hq1:Y1=r1
        · rw [decide_eq_true hq1] at q1
          by_cases hq2:Y2=r2
          · rw [decide_eq_true hq2] at q2
            have HZ:Aside (V=0):=by show V=0;rw [HW.out,if_pos hq1,if_pos hq2]
            clear hq1 hq2 HW hY1 hY2
            go_wp2_with (first
              | (refine wpList_load_row rfl 24 (.tmp 18) rfl b18 rfl 24 (z01 Y1).toArray (0,0) _ h18 Tryz.underlying24 rfl (z02 y1) ?_)
              | (refine wpList_load_row rfl 24 (.tmp 8) rfl b8 rfl 24 (z01 r1).toArray (0,0) _ h8 Tryz.underlying24 rfl (z02 l1) ?_)
              | (refine z0p (by rfl) 24 (.tmp 20) rfl 32 5 b20 rfl 24 (z01 Y2).toArray (0,0) h20 Tryz.underlying24 (z02 y2) ?_)
              | (refine z0p (by rfl) 24 (.tmp 10) rfl 32 5 b10 rfl 24 (z01 r2).toArray (0,0) h10 Tryz.underlying24 (z02 l2) ?_))
            go_ret
            exact ⟨by rw [HZ.out];rfl,R7.out.1⟩
          · rw [decide_eq_false hq2] at q2
            have HZ:Aside (V=80):=by show V=80;rw [HW.out,if_pos hq1,if_neg hq2]
            clear hq1 hq2 HW hY1 hY2
            go_wp2_with (first
              | (refine wpList_load_row rfl 24 (.tmp 18) rfl b18 rfl 24 (z01 Y1).toArray (0,0) _ h18 Tryz.underlying24 rfl (z02 y1) ?_)
              | (refine wpList_load_row rfl 24 (.tmp 8) rfl b8 rfl 24 (z01 r1).toArray (0,0) _ h8 Tryz.underlying24 rfl (z02 l1) ?_)
              | (refine z0p (by rfl) 24 (.tmp 20) rfl 32 5 b20 rfl 24 (z01 Y2).toArray (0,0) h20 Tryz.underlying24 (z02 y2) ?_)
              | (refine z0p (by rfl) 24 (.tmp 10) rfl 32 5 b10 rfl 24 (z01 r2).toArray (0,0) h10 Tryz.underlying24 (z02 l2) ?_))
            go_ret
            exact ⟨by rw [HZ.out];rfl,R7.out.1⟩
        · rw [decide_eq_false hq1] at q1
          have HZ:Aside (V=80):=by show V=80;rw [HW.out,if_neg hq1]
          clear hq1 HW hY1 hY2 q2
          go_wp2_with (first
            | (refine wpList_load_row rfl 24 (.tmp 18) rfl b18 rfl 24 (z01 Y1).toArray (0,0) _ h18 Tryz.underlying24 rfl (z02 y1) ?_)
            | (refine wpList_load_row rfl 24 (.tmp 8) rfl b8 rfl 24 (z01 r1).toArray (0,0) _ h8 Tryz.underlying24 rfl (z02 l1) ?_))
          go_ret
          exact ⟨by rw [HZ.out];rfl,R7.out.1⟩
      · have hV:Aside (V=30):=HV.out.2.2.1 rfl rfl hSn
        have hne:((S:Int) == (n:Int))=false:=beq_eq_false_iff_ne.2 (by omega)
        clear hSn R2 HA HV
        go_wp2_with fail
        go_ret
        exact ⟨by rw [hV.out];rfl,hb⟩
    · have hV:Aside (V=30):=HV.out.2.1 rfl hFm
      have hne:((F:Int) == (m:Int))=false:=beq_eq_false_iff_ne.2 (by omega)
      clear hFm R2 HA HV
      go_wp2_with fail
      go_ret
      exact ⟨by rw [hV.out];rfl,hb⟩
  · have hV:Aside (V=E):=HV.out.1 hE
    have hne:(E == 0)=false:=beq_eq_false_iff_ne.2 hE
    clear R2 HA hE HV
    go_wp2_with fail
    go_ret
    exact ⟨by rw [hV.out];rfl,hb⟩
end Go.Proofs.YthpdlnbbbcgemaaGreatDoor

namespace Go.Proofs.YthpdlnbbbcgemaaGreatDoor
set_option maxRecDepth 100000
structure PFXOK (d:Int) (m n:Nat) (r1 r2 t:List Int):Prop where
  le:m≤n
  top:n≤4611686018427387904
  len:t.length=32*(PXS m n).length
  rng:∀ x∈t,0≤x∧x≤255
  low:z0C d m (FLD d (t.take (32*PC m)) (PC m))=r1
  high:z0C d n (FLD d (CAT (PXV d m n t) (SPAN 0 n)) (PC n))=r2
theorem z7U {d:Int} {n k:Nat} {l root:List Int} (h:UNDA d n k l root=0):k=PC n∧z0C d n (FLD d l k)=root:=by
  unfold UNDA at h
  split at h
  · next hb=>
    unfold BAGA at hb
    split at hb
    · simp at hb
    · split at hb
      · simp at hb
      · next hk=>exact ⟨by simpa using hk,hb.2⟩
  · cases h
theorem z7V {d:Int} {m n t0:Nat} {r1 r2 bl:List Int} (hr:∀ x∈bl,0≤x∧x≤255) (hm:m<2 ^ 64) (hn:n<2 ^ 64) (hL:LOWS (DEX bl).2.1 t0) (hdn:(DEX bl).1=0→(DEX bl).2.2.2.2.length=32*(DEX bl).2.2.2.1∧∀ z∈(DEX bl).2.2.2.2,0≤z∧z≤255) (h:PFXA d (JSX (DEX bl).2.1 (DEX bl).2.2.1 t0) m r1 n r2 bl=0):∃ t,DEX bl=(0,m,n,(PXS m n).length,t)∧PFXOK d m n r1 r2 t:=by
  obtain ⟨E,F,S,N,t,hD⟩:∃ E F S N t,DEX bl=(E,F,S,N,t):=⟨_,_,_,_,_,rfl⟩
  unfold PFXA at h
  rw [hD] at h hL hdn
  dsimp only at h hL hdn
  by_cases h1:E=0
  · rw [if_neg (by simpa using h1)] at h
    by_cases h2:F=m
    · rw [if_neg (by simpa using h2)] at h
      by_cases h3:S=n
      · rw [if_neg (by simpa using h3)] at h
        subst h1 h2 h3
        obtain ⟨p1,p2,p3⟩:=z7T hr hm hn hD
        subst p3
        have e1:PPA F S=(0,PLCS (PXS F S)):=by unfold PPA;rw [if_neg (by omega)]
        have hC:RCA d (JSX F S t0) F S (PXS F S).length t=(0,(PC F,CAT (RCM d (JSX F S t0) F S t) (SPAN 0 F)),(PC S,CAT (RCM d (JSX F S t0) F S t) (SPAN 0 S))):=by
          unfold RCA
          rw [e1,if_neg (by simp),if_neg (by simp [PLCS])]
        rw [hC] at h
        dsimp only at h
        have c1:=z4Y (d:=d) p1 p2 hL t (PC F) (Nat.le_refl _)
        rw [List.take_of_length_le (by rw [z0r (by omega)];exact Nat.le_refl _)] at c1
        have c2:CAT (RCM d (JSX F S t0) F S t) (SPAN 0 S)=CAT (PXV d F S t) (SPAN 0 S):=z7R fun x y hxy=>z96 p1 p2 hL t hxy
        rw [c1,c2] at h
        split at h
        · next hne=>exact absurd h hne
        · next hz=>
          have z1:=z7U (by simpa using hz)
          have z2:=z7U h
          exact ⟨t,hD,p1,p2,(hdn rfl).1,(hdn rfl).2,z1.2,z2.2⟩
      · rw [if_pos h3] at h
        cases h
    · rw [if_pos h2] at h
      cases h
  · rw [if_pos h1] at h
    exact absurd h h1
theorem zaN (d:Int) (F S:Nat) (t:List Int):BAGS d S (PC S) (CAT (PXV d F S t) (SPAN 0 S)) (PFXL d F S t)∧BAGS d F (PC F) (t.take (32*PC F)) (PFXL d F S t)∧∀ x∈PTX (PXV d F S t) (PXS F S),x∈PFXL d F S t:=by
  unfold PFXL
  refine ⟨(z7I ..).mono fun x hx=>List.mem_append.2 (.inl hx),(z7I ..).mono fun x hx=>List.mem_append.2 (.inr (List.mem_append.2 (.inl hx))),fun x hx=>List.mem_append.2 (.inr (List.mem_append.2 (.inr hx)))⟩
theorem zfa (d:Int) {F S:Nat} (t:List Int) (hF:F≤S) (hS:S≤4611686018427387904):(PFXL d F S t).length≤20000:=by
  unfold PFXL
  rw [List.length_append,List.length_append,z3L,z3L]
  have:=z35 (PXV d F S t) (PXS F S)
  have:=z20 hF hS
  have:=z0O 64 S (by omega)
  have:=z0O 64 F (by omega)
  omega
theorem za8 {d:Int} {T:List (List Nat)} (hT:INJ d T) {m n:Nat} {a b r t t':List Int} (h1:PFXOK d m n a r t) (h2:PFXOK d m n b r t') (s1:∀ x∈PFXL d m n t,x∈T) (s2:∀ x∈PFXL d m n t',x∈T):t=t':=by
  obtain ⟨b1,_,p1⟩:=zaN d m n t
  obtain ⟨b2,_,p2⟩:=zaN d m n t'
  have k1:=z50 (d:=d) h1.len h1.rng (SPAN 0 n)
  have k2:=z50 (d:=d) h2.len h2.rng (SPAN 0 n)
  rw [z0r h1.top] at k1 k2
  have hc:=zfS hT k1.1 k1.2 k2.1 k2.2 (b1.mono s1) (b2.mono s2) (h1.high.trans h2.high.symm)
  have hv:=z2J (d:=d) h1.len h1.rng (Nat.le_refl _)
  have hv':=z2J (d:=d) h2.len h2.rng (Nat.le_refl _)
  exact zg8 hT h1.top (z1w h1.le h1.top) h1.len h1.rng h2.len h2.rng (fun x hx=>s1 x (p1 x hx)) (fun x hx=>s2 x (p2 x hx)) (zaK (fun a b=>(hv a b).1) (fun a b=>(hv' a b).1) hc)
theorem zfb {d:Int} {T:List (List Nat)} (hT:INJ d T) {m n:Nat} {a b r t t':List Int} (h1:PFXOK d m n a r t) (h2:PFXOK d m n b r t') (s1:∀ x∈PFXL d m n t,x∈T) (s2:∀ x∈PFXL d m n t',x∈T):a=b:=by
  have:=za8 hT h1 h2 s1 s2
  subst this
  exact h1.low.symm.trans h2.low
theorem PFXOK.pos {d:Int} {m n:Nat} {a b r r' t t':List Int} (h1:PFXOK d m n a r t) (h2:PFXOK d m n b r' t') (hne:a≠b):0<m:=by
  refine Nat.pos_of_ne_zero fun e=>hne ?_
  subst e
  rw [← h1.low,← h2.low]
  rfl
end Go.Proofs.YthpdlnbbbcgemaaGreatDoor

namespace Go.Proofs.YthpdlnbbbcgemaaGreatDoor
open Go.RowKit
set_option maxRecDepth 100000
end Go.Proofs.YthpdlnbbbcgemaaGreatDoor

namespace Go.Proofs.YthpdlnbbbcgemaaGreatDoor
open Go.RowKit
set_option maxRecDepth 100000
set_option maxHeartbeats 2000000 in
theorem zc5 (d m n:Int) (R S:List Int) (lR:R.length=32) (p q:Value) (w:World):Calls Tryz.prog 12 #[.int .i64 d,.int .u64 m,.agg (z01 R).toArray,.agg (z01 R).toArray,.int .u64 n,.agg (z01 S).toArray,p,q] w fun e w'=>e=.returned (.tuple #[.agg #[.slice none 0 0,.slice none 0 0],.bool false])∧Below w.heap.size w w':=by
  obtain ⟨W0,hW0⟩:∃ W0,((((w.alloc (.cells (z01 R).toArray 24)).alloc (.cells (z01 R).toArray 24)).alloc (.cells (z01 S).toArray 24)).alloc (.cells #[.slice none 0 0,.slice none 0 0] 31))=W0:=⟨_,rfl⟩
  have R0:Aside (Below w.heap.size w W0):=by rw [← hW0];exact (((((Below.refl _ _).alloc (Nat.le_refl _) _).alloc (by simp) _).alloc (by simp;omega) _).alloc (by simp;omega) _)
  have ka:Has W0 (w.heap.size) (z01 R).toArray 24:=by rw [← hW0];exact ((((Has.new _ _ _).alloc _).alloc _).alloc _)
  have kb:Has W0 (w.heap.size+1) (z01 R).toArray 24:=by rw [← hW0];exact (((Has.at _ _ _ (by simp)).alloc _).alloc _)
  have kz:Has W0 (w.heap.size+1+1+1) #[.slice none 0 0,.slice none 0 0] 31:=by rw [← hW0];exact (Has.at _ _ _ (by simp))
  have q1:∀ w,(Op.equalIn 10000 24 (.agg (z01 R).toArray) (.agg (z01 R).toArray)).run Tryz.prog w=.ok true w:=fun w=>by rw [z3g lR lR w];simp
  go_enter Tryz.func12,Tryz.ntmps12
  go_upto_region 1 with fail
  clear hW0
  obtain ⟨ba,hba⟩:∃ b,b=w.heap.size:=⟨_,rfl⟩
  obtain ⟨bb,hbb⟩:∃ b,b=w.heap.size+1:=⟨_,rfl⟩
  obtain ⟨bz,hbz⟩:∃ b,b=w.heap.size+1+1+1:=⟨_,rfl⟩
  have HZ:Aside (w.heap.size≤bz):=by show w.heap.size≤bz;omega
  rw [← hbz] at kz ⊢
  rw [← hbb] at kb ⊢
  rw [← hba] at ka ⊢
  clear hba hbb hbz
  have x0:W0.cell? ⟨bz,0,none⟩=some (.slice none 0 0):=kz.cell 0
  have x1:W0.cell? ⟨bz,1,none⟩=some (.slice none 0 0):=kz.cell 1
  have f0:=kz.frozen 0
  have f1:=kz.frozen 1
  go_wp2_with (first
    | (refine wpList_load_row rfl 24 (.tmp 10) rfl ba rfl 24 (z01 R).toArray (0,0) _ ka Tryz.underlying24 rfl (z02 lR) ?_)
    | (refine wpList_load_row rfl 24 (.tmp 11) rfl bb rfl 24 (z01 R).toArray (0,0) _ kb Tryz.underlying24 rfl (z02 lR) ?_)
    | fail)
  have hH:=(kz.set 0 (.slice none 0 0)).set 1 (.slice none 0 0)
  have hb:=(R0.out.setCell (p:=⟨bz,0,none⟩) HZ.out (.slice none 0 0)).setCell (p:=⟨bz,1,none⟩) HZ.out (.slice none 0 0)
  clear x0 x1 f0 f1 kz ka kb q1
  generalize (W0.setCell ⟨bz,0,none⟩ (.slice none 0 0)).setCell ⟨bz,1,none⟩ (.slice none 0 0)=wf at *
  have z0:wf.cell? ⟨bz,0,none⟩=some (.slice none 0 0):=hH.cell 0
  have z1:wf.cell? ⟨bz,1,none⟩=some (.slice none 0 0):=hH.cell 1
  refine bodyPost_ret (v:=.tuple #[.agg #[.slice none 0 0,.slice none 0 0],.bool false]) ?_ rfl ⟨rfl,hb⟩
  simp [results,Tryz.f12,go_sem,z0,z1]
end Go.Proofs.YthpdlnbbbcgemaaGreatDoor

namespace Go.Proofs.YthpdlnbbbcgemaaGreatDoor
open Go.RowKit
theorem zdu {K:Int} {chk:Nat→Bool} {PF:Nat→Nat→Int × List Nat} {l:List Int} (hr:∀ x∈l,0≤x∧x≤255):(DC0 K chk PF l).2.1<2 ^ 64∧(DC0 K chk PF l).2.2.1<2 ^ 64:=by
  have hz:∀ E,(DERR E).2.1<2 ^ 64∧(DERR E).2.2.1<2 ^ 64:=fun E=>⟨by simp [DERR],by simp [DERR]⟩
  unfold DC0
  split
  · exact hz _
  · split
    · exact hz _
    · unfold DC1
      have hr1:∀ x∈l.drop 1,0≤x∧x≤255:=fun x hx=>hr x (List.mem_of_mem_drop hx)
      generalize l.drop 1=t at *
      split
      · exact hz _
      · rename_i h1
        obtain ⟨Z,m,hZ,_,_,e,_⟩:=z1V hr1 (Decidable.not_not.1 h1)
        split
        · exact hz _
        · have hr2:∀ x∈t.drop (LNG t).2.1.toNat,0≤x∧x≤255:=fun x hx=>hr1 x (List.mem_of_mem_drop hx)
          have hX:(LNG t).1.toNat<2 ^ 64:=by rw [e];simpa using hZ
          unfold DC2
          generalize t.drop (LNG t).2.1.toNat=s at *
          split
          · exact hz _
          · rename_i h2
            obtain ⟨Z',m',hZ',_,_,e',_⟩:=z1V hr2 (Decidable.not_not.1 h2)
            have hY:(LNG s).1.toNat<2 ^ 64:=by rw [e'];simpa using hZ'
            unfold DC3
            split
            · exact hz _
            · split
              · exact hz _
              · split
                · exact hz _
                · exact ⟨hX,hY⟩
theorem z2U {l:List Int} (hr:∀ x∈l,0≤x∧x≤255):(DEX l).2.1<2 ^ 64∧(DEX l).2.2.1<2 ^ 64:=zdu hr
end Go.Proofs.YthpdlnbbbcgemaaGreatDoor

namespace Go.Proofs.YthpdlnbbbcgemaaGreatDoor
open Go.RowKit
set_option maxRecDepth 100000
theorem zfc (F:Nat) (hF:F<2 ^ 64):∃ t,LOWS F t:=by
  obtain ⟨t,h1,h2,h3,_⟩:=z6Y F hF
  exact ⟨t,h1,h2,h3⟩
theorem zfd (F S:Nat) (hF:F<2 ^ 64):∃ t,LOWS F t∧(F≤S→S≤4611686018427387904→JSOK F (S - F) (JSX F S t)):=by
  by_cases h:F≤S∧S≤4611686018427387904
  · obtain ⟨t,ht,hc⟩:=zeQ F (S - F) (by omega)
    refine ⟨t,ht,fun _ _=>⟨Nat.le_trans (z7F _ _ _ _) (by omega),fun i x y e=>?_,hc⟩⟩
    obtain ⟨h1,h2,h3,h4⟩:=zaF e
    have h5:y≤(y+1)*2 ^ x:=by
      have:=Nat.pos_of_ne_zero (n:=2 ^ x) (by simp)
      calc y≤y+1:=by omega
        _=(y+1)*1:=by omega
        _≤(y+1)*2 ^ x:=Nat.mul_le_mul_left _ this
    exact ⟨by omega,by omega,by omega⟩
  · obtain ⟨t,ht⟩:=zfc F hF
    exact ⟨t,ht,fun h1 h2=>absurd ⟨h1,h2⟩ h⟩
theorem zc6:∃ TS:List Int→Nat,∀ K,(∀ x∈K,0≤x∧x≤255)→LOWS (DEX K).2.1 (TS K)∧((DEX K).2.1≤(DEX K).2.2.1→(DEX K).2.2.1≤4611686018427387904→JSOK (DEX K).2.1 ((DEX K).2.2.1 - (DEX K).2.1) (JSX (DEX K).2.1 (DEX K).2.2.1 (TS K))):=by
  have h:∀ K:List Int,∃ t,(∀ x∈K,0≤x∧x≤255)→LOWS (DEX K).2.1 t∧((DEX K).2.1≤(DEX K).2.2.1→(DEX K).2.2.1≤4611686018427387904→JSOK (DEX K).2.1 ((DEX K).2.2.1 - (DEX K).2.1) (JSX (DEX K).2.1 (DEX K).2.2.1 t)):=fun K=>by
    by_cases hr:∀ x∈K,0≤x∧x≤255
    · obtain ⟨t,ht⟩:=zfd (DEX K).2.1 (DEX K).2.2.1 (z2U hr).1
      exact ⟨t,fun _=>ht⟩
    · exact ⟨0,fun h=>absurd h hr⟩
  exact Classical.axiomOfChoice h
end Go.Proofs.YthpdlnbbbcgemaaGreatDoor
