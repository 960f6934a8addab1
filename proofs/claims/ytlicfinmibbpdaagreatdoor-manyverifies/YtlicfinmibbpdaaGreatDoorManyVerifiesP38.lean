/- Texts of ManyVerifies, one behind the other: ManyVerify, ManyRefVerify, ManyAwake, ManyNumbers, ManyStays2. -/
import Derived.Laws.AppendOwnNone
import Derived.Test.YtlicfinmibbpdaaGreatDoorManyVerifiesP37
namespace Go.Proofs.YtlicfinmibbpdaaGreatDoor
open Go.RowKit
set_option maxRecDepth 100000
theorem z6K {b:List Int} (hr:∀ x∈b,0≤x∧x≤255) (h:(MDC b).1=0):(MDC b).2.1≤4611686018427387904∧z07 (MDC b).2.2.1 (MDC b).2.1=0∧(MDC b).2.2.2.length=32*(z04 (TPS (MDC b).2.1) (MDC b).2.2.1).length∧(MDC b).2.2.1.length+(MDC b).2.2.2.length≤b.length∧∀ x∈(MDC b).2.2.2,0≤x∧x≤255:=by
  cases b with
  | nil=>cases h
  | cons x t=>
    by_cases hx:x=78
    · have e0 : MDC (x :: t)=MD1 t:=by rw [MDC,if_pos hx]
      rw [e0] at h ⊢
      have hrt:∀ y∈t,0≤y∧y≤255:=fun y hy=>hr y (List.mem_cons_of_mem _ hy)
      by_cases h1:(LNG t).2.2≠0
      · rw [z6f h1] at h
        exact absurd h h1
      · by_cases h2:4611686018427387904<(LNG t).1.toNat
        · rw [MD1,if_neg h1,if_pos h2] at h
          cases h
        · have e1:MD1 t=MD3 (LNG t).1.toNat (IDXS (LNG t).1.toNat (t.drop (LNG t).2.1.toNat)):=by rw [MD1,if_neg h1,if_neg h2]
          rw [e1] at h ⊢
          generalize (LNG t).1.toNat=Z at *
          have hrd:∀ y∈t.drop (LNG t).2.1.toNat,0≤y∧y≤255:=fun y hy=>hrt y (List.mem_of_mem_drop hy)
          have hlt:(t.drop (LNG t).2.1.toNat).length≤t.length:=by rw [List.length_drop];omega
          generalize t.drop (LNG t).2.1.toNat=u at *
          by_cases h3:(IDXS Z u).1≠0
          · rw [MD3,if_pos h3] at h
            exact absurd h h3
          · have h3':(IDXS Z u).1=0:=by simpa using h3
            obtain ⟨q1,q2⟩:=z4p h3'
            obtain ⟨q3,q4⟩:=z5j hrd h3'
            by_cases h4:(IDXS Z u).2.2.length<32*(z04 (TPS Z) (IDXS Z u).2.1).length
            · rw [MD3,if_neg h3,if_pos h4] at h
              cases h
            · by_cases h5:32*(z04 (TPS Z) (IDXS Z u).2.1).length<(IDXS Z u).2.2.length
              · rw [MD3,if_neg h3,if_neg h4,if_pos h5] at h
                cases h
              · rw [MD3,if_neg h3,if_neg h4,if_neg h5]
                dsimp only
                exact ⟨by omega,z6H (by omega) q2 q1,by omega,by simp;omega,q4⟩
    · rw [MDC,if_neg hx] at h
      cases h
def MVA (d:Int) (root:List Int) (N:Nat) (L:List Nat) (nl:Nat) (lv b:List Int):Int:=
  if (MDC b).1≠0 then (MDC b).1 else if (MDC b).2.1≠N then 30 else if (MDC b).2.2.1≠L then 32 else if nl≠L.length then 70 else if z0x d N (FLD d (MUPS d (TPS N) L lv (MDC b).2.2.2) (PC N))=root then 0 else 80
structure MVAS (d:Int) (root:List Int) (N:Nat) (L:List Nat) (nl:Nat) (lv b:List Int) (V:Int):Prop where
  dec:(MDC b).1≠0→V=(MDC b).1
  size:(MDC b).1=0→(MDC b).2.1≠N→V=30
  index:(MDC b).1=0→(MDC b).2.1=N→(MDC b).2.2.1≠L→V=32
  count:(MDC b).1=0→(MDC b).2.1=N→(MDC b).2.2.1=L→nl≠L.length→V=70
  unlike:(MDC b).1=0→(MDC b).2.1=N→(MDC b).2.2.1=L→nl=L.length→z0x d N (FLD d (MUPS d (TPS N) L lv (MDC b).2.2.2) (PC N))≠root→V=80
  ok:(MDC b).1=0→(MDC b).2.1=N→(MDC b).2.2.1=L→nl=L.length→z0x d N (FLD d (MUPS d (TPS N) L lv (MDC b).2.2.2) (PC N))=root→V=0
theorem z85 (d:Int) (root:List Int) (N:Nat) (L:List Nat) (nl:Nat) (lv b:List Int):MVAS d root N L nl lv b (MVA d root N L nl lv b):=by
  refine ⟨fun h=>?_,fun h1 h2=>?_,fun h1 h2 h3=>?_,fun h1 h2 h3 h4=>?_,fun h1 h2 h3 h4 h5=>?_,fun h1 h2 h3 h4 h5=>?_⟩ <;> unfold MVA
  · rw [if_pos h]
  · rw [if_neg (by simpa using h1),if_pos h2]
  · rw [if_neg (by simpa using h1),if_neg (by simpa using h2),if_pos h3]
  · rw [if_neg (by simpa using h1),if_neg (by simpa using h2),if_neg (by simpa using h3),if_pos h4]
  · rw [if_neg (by simpa using h1),if_neg (by simpa using h2),if_neg (by simpa using h3),if_neg (by simpa using h4),if_neg h5]
  · rw [if_neg (by simpa using h1),if_neg (by simpa using h2),if_neg (by simpa using h3),if_neg (by simpa using h4),if_pos h5]
theorem z2L {w:World} {B s n c:Nat} {t:TypeId} {a:Option Addr} {xs:List Value} (h:w.ownsRow B t s (.slice a n c) n xs):n≤c∧(a=none→c=0)∧∀ x,a=some x→x.block<w.heap.size∧x.spot=none:=by
  rcases h.2 with ⟨e,h0⟩ | ⟨g,cap,cur,e,hb,hg,hc⟩
  · cases e
    exact ⟨by omega,fun _=>rfl,(fun x e=>by cases e)⟩
  · cases e
    exact ⟨hc.1,(fun e=>by cases e),(fun x e=>by cases e;exact ⟨(Array.getElem?_eq_some_iff.1 hg).1,rfl⟩)⟩
theorem zaI (d:Int) (N:Nat) (hN:N≤4611686018427387904) (l:List Int):BAGA d N (PC N) l=(0,z0x d N (FLD d l (PC N))):=by
  unfold BAGA
  rw [if_neg (by omega),if_neg (by simp)]
set_option maxHeartbeats 16000000 in
theorem z6W (d:Int) (root:List Int) (hroot:IsH root) (N:Nat) (ai:Option Addr) (n ci:Nat) (L:List Nat) (al:Option Addr) (nl cl:Nat) (lv:List Int) (ab:Option Addr) (k cb:Nat) (b:List Int) (w:World) (hl:L.length=n) (hn:n≤200) (hL:NUML w ai L) (hFl:Flat w al nl lv) (hcl:nl≤cl) (hla:∀ x,al=some x→x.block<w.heap.size) (hB:Bytes w ab k b) (hkb:k≤cb) (hk:k≤6400) (hT:Tabled w) (hX:HX.Tabled w) (h0:0<w.heap.size):
    Calls Tryz.prog 18 #[.int .i64 d,.agg (z00 root).toArray,.int .u64 (N:Int),.slice ai n ci,.slice al nl cl,.slice ab k cb] w fun e w'=>e=.returned (.int .i64 (MVA d root N L nl lv b))∧Below w.heap.size w w':=by
  have SV:=z85 d root N L nl lv b
  have hMT:=z6K (b:=b) hB.2.2
  have hbl:b.length=k:=hB.1
  generalize MVA d root N L nl lv b=V at *
  obtain ⟨w1,e1⟩:∃ w1,w.alloc (.cells (z00 root).toArray 38)=w1:=⟨_,rfl⟩
  obtain ⟨b7,hb7⟩:∃ b,w.heap.size=b:=⟨_,rfl⟩
  have hb1:Below w.heap.size w w1:=by rw [← e1];exact (Below.refl _ _).alloc (Nat.le_refl _) _
  have hR1:Has w1 b7 (z00 root).toArray 38:=by rw [← e1,← hb7];exact Has.new _ _ _
  have cd:=z6V ab k cb b w1 (hB.below hb1) hkb (by omega) (hT.below h0 hb1) (by have:=hb1.size;omega)
  have HA:Aside (L.length=n∧n≤200∧NUML w ai L∧Flat w al nl lv∧nl≤cl∧(∀ x,al=some x→x.block<w.heap.size)∧Tabled w∧HX.Tabled w∧0<w.heap.size∧k≤6400∧b.length=k):=⟨hl,hn,hL,hFl,hcl,hla,hT,hX,h0,hk,hbl⟩
  have H1:Aside (Below w.heap.size w w1∧Has w1 b7 (z00 root).toArray 38):=⟨hb1,hR1⟩
  have HM:Aside ((MDC b).1=0→(MDC b).2.1≤4611686018427387904∧z07 (MDC b).2.2.1 (MDC b).2.1=0∧(MDC b).2.2.2.length=32*(z04 (TPS (MDC b).2.1) (MDC b).2.2.1).length∧(MDC b).2.2.1.length+(MDC b).2.2.2.length≤b.length∧∀ x∈(MDC b).2.2.2,0≤x∧x≤255):=hMT
  have HV:Aside (MVAS d root N L nl lv b V∧IsH root):=⟨SV,hroot⟩
  clear hl hn hL hFl hcl hla hB hkb hk hT hX h0 hb1 hR1 SV hMT hroot hbl
  obtain ⟨E,hE⟩:∃ E,(MDC b).1=E:=⟨_,rfl⟩
  obtain ⟨Z,hZ⟩:∃ Z,(MDC b).2.1=Z:=⟨_,rfl⟩
  obtain ⟨M,hM⟩:∃ M,(MDC b).2.2.1=M:=⟨_,rfl⟩
  obtain ⟨nd,hnd⟩:∃ nd,(MDC b).2.2.2=nd:=⟨_,rfl⟩
  have HD:Aside (((MDC b).1=E∧(MDC b).2.1=Z∧(MDC b).2.2.1=M∧(MDC b).2.2.2=nd)):=⟨hE,hZ,hM,hnd⟩
  unfold DECM at cd
  rw [hE,hZ,hM,hnd] at cd
  clear hE hZ hM hnd
  go_enter Tryz.func18,Tryz.ntmps18
  go_upto_region 1 with fail
  clear e1 hb7
  go_wp2_with fail
  refine cd.mono ?_
  rintro e w2 ⟨a3,c3,a4,K,c4,rfl,o3,o4,hK,hb2⟩
  clear cd
  have hb12:Below w.heap.size w w2:=H1.out.1.trans (hb2.mono H1.out.1.size)
  go_upto_region 2 with fail
  obtain ⟨w3,e3⟩:∃ w3,w2.alloc (.cells #[.int .u64 (Z:Int),.slice a3 M.length c3,.slice a4 K c4] 26)=w3:=⟨_,rfl⟩
  have hb3:Below w2.heap.size w2 w3:=by rw [← e3];exact (Below.refl _ _).alloc (Nat.le_refl _) _
  have hP3:Has w3 w2.heap.size #[.int .u64 (Z:Int),.slice a3 M.length c3,.slice a4 K c4] 26:=by rw [← e3];exact Has.new _ _ _
  rw [e3]
  have W3:Aside (Below w.heap.size w w3∧Has w3 b7 (z00 root).toArray 38∧Has w3 w2.heap.size #[.int .u64 (Z:Int),.slice a3 M.length c3,.slice a4 K c4] 26∧w3.ownsRow w1.heap.size 23 1 (.slice a3 M.length c3) M.length (z02 M)∧w3.ownsRow w1.heap.size 38 32 (.slice a4 K c4) K (z00 nd)∧nd.length=32*K):=⟨hb12.trans (hb3.mono hb12.size),(H1.out.2.keep hb2).keep hb3,hP3,z0u o3 fun k e=>hb3.block k (o3.lt k e).2,z0u o4 fun k e=>hb3.block k (o4.lt k e).2,hK⟩
  have x0:=hP3.cell 0
  have x1:=hP3.cell 1
  have x2:=hP3.cell 2
  generalize w2.heap.size=b13 at *
  clear e3 hb3 hP3 hb2 hb12 o3 o4 hK H1
  by_cases hE:E=0
  case neg=>
    have FN:Aside (V=E∧Below w.heap.size w w3):=⟨by rw [← HD.out.1];exact HV.out.1.dec (by rw [HD.out.1];exact hE),W3.out.1⟩
    have hne:(E == 0)=false:=beq_eq_false_iff_ne.2 hE
    clear HV HM HA HD W3 hE
    go_wp2_with fail
    go_ret
    exact ⟨by rw [FN.out.1];rfl,FN.out.2⟩
  subst hE
  by_cases hZ:Z=N
  case neg=>
    have FN:Aside (V=30∧Below w.heap.size w w3):=⟨HV.out.1.size HD.out.1 (by rw [HD.out.2.1];exact hZ),W3.out.1⟩
    have hne:((Z:Int) == (N:Int))=false:=beq_eq_false_iff_ne.2 (by omega)
    clear HV HM HA HD W3 hZ
    go_wp2_with fail
    go_ret
    exact ⟨by rw [FN.out.1];rfl,FN.out.2⟩
  subst hZ
  have ce:=z81 a3 ai M.length n c3 ci M L rfl HA.out.1 (by have:=HM.out HD.out.1;rw [HD.out.2.2.1,HD.out.2.2.2] at this;have:=HA.out;omega) w3 (z20 W3.out.2.2.2.1 rfl) (HA.out.2.2.1.keep W3.out.1)
  go_wp2_with fail
  refine ce.mono ?_
  rintro e w4 ⟨rfl,hb4⟩
  clear ce x0 x1 x2
  have hb34:Below w.heap.size w w4:=W3.out.1.trans (hb4.mono W3.out.1.size)
  by_cases hML:M=L
  case neg=>
    have FN:Aside (V=32∧Below w.heap.size w w4):=⟨HV.out.1.index HD.out.1 HD.out.2.1 (by rw [HD.out.2.2.1];exact hML),hb34⟩
    have hne:decide (M=L)=false:=decide_eq_false hML
    rw [hne]
    clear HV HM HA HD W3 hb4 hb34 hne hML
    go_wp2_with fail
    go_ret
    exact ⟨by rw [FN.out.1];rfl,FN.out.2⟩
  subst hML
  rw [show decide (M=M)=true by simp]
  have hMZ:=HM.out HD.out.1
  rw [HD.out.2.1,HD.out.2.2.1,HD.out.2.2.2] at hMZ
  obtain ⟨m1,m2,m3,m4,m5⟩:=hMZ
  have hP4:=W3.out.2.2.1.keep hb4
  have x0:=hP4.cell 0
  have x1:=hP4.cell 1
  have x2:=hP4.cell 2
  have hMW:MWA M Z K=0:=z4B m2 (by have:=W3.out.2.2.2.2.2;omega)
  have hcap3:=z2L W3.out.2.2.2.1
  have hcap4:=z2L W3.out.2.2.2.2.1
  have cc:=z7X d M Z a3 M.length c3 a4 K c4 al nl cl lv nd w4 rfl (by have:=HA.out;omega) hcap3.1 hcap3.2.1 (fun x e=>⟨Nat.lt_of_lt_of_le (hcap3.2.2 x e).1 hb4.size,(hcap3.2.2 x e).2⟩) (by have:=HA.out;have:=W3.out.2.2.2.2.2;omega) ((z20 W3.out.2.2.2.1 rfl).keep hb4) hcap4.1 (fun x e=>Nat.lt_of_lt_of_le (hcap4.2.2 x e).1 hb4.size) ((z1F W3.out.2.2.2.2.1 m5).below hb4) HA.out.2.2.2.2.1 (fun x e=>Nat.lt_of_lt_of_le (HA.out.2.2.2.2.2.1 x e) hb34.size) (HA.out.2.2.2.1.below hb34) (HA.out.2.2.2.2.2.2.1.below HA.out.2.2.2.2.2.2.2.2.1 hb34) (HA.out.2.2.2.2.2.2.2.1.below hb34) (by have:=hb34.size;have:=HA.out.2.2.2.2.2.2.2.2.1;omega)
  have W4:Aside (Below w.heap.size w w4∧Has w4 b7 (z00 root).toArray 38∧HX.Tabled w4):=⟨hb34,W3.out.2.1.keep hb4,HA.out.2.2.2.2.2.2.2.1.below hb34⟩
  have HS:Aside (Z≤4611686018427387904∧HSS nl lv∧HSS K nd):=⟨m1,⟨HA.out.2.2.2.1.1,HA.out.2.2.2.1.2.2⟩,⟨W3.out.2.2.2.2.2,m5⟩⟩
  clear m1 m2 m3 m4 m5 hP4 hcap3 hcap4 W3 HA HM hb4 hb34
  have hM:(MBOX Z a3 M.length c3 a4 K c4)=#[.int .u64 (Z:Int),.slice a3 M.length c3,.slice a4 K c4]:=rfl
  rw [hM] at cc
  clear hM
  by_cases hnl:nl=M.length
  case neg=>
    have hME:MCE M Z K nl=70:=z2B hMW hnl
    have hMC:MCL d M Z K nl lv nd=(70,0,[]):=by unfold MCL;rw [hME];rfl
    rw [hMC] at cc
    have FN:Aside (V=70):=HV.out.1.count HD.out.1 HD.out.2.1 HD.out.2.2.1 hnl
    clear HV HD HS hME hMC hnl hMW
    go_wp2_with fail
    refine cc.mono ?_
    rintro e w5 ⟨a6,c6,rfl,_,hb5⟩
    clear cc x0 x1 x2
    have FB:Aside (Below w.heap.size w w5):=W4.out.1.trans (hb5.mono W4.out.1.size)
    clear hb5 W4
    go_wp2_with fail
    go_ret
    exact ⟨by rw [FN.out];rfl,FB.out⟩
  have hME:MCE M Z K nl=0:=z5L hMW hnl
  have hMC:MCL d M Z K nl lv nd=(0,PC Z,MUPS d (TPS Z) M lv nd):=by unfold MCL;rw [if_pos hME]
  have hrg:=z6J (d:=d) (L:=M) (N:=Z) HS.out.2.1 HS.out.2.2
  rw [hMC] at cc hrg
  have HR:Aside ((∀ y∈MUPS d (TPS Z) M lv nd,0≤y∧y≤255)∧nl=M.length):=⟨hrg,hnl⟩
  have HBG:Aside (∀ l,BAGA d Z (PC Z) l=(0,z0x d Z (FLD d l (PC Z)))):=zaI d Z HS.out.1
  have hZ64:Z<2 ^ 64:=by have:=HS.out.1;omega
  have HZ:Aside (Z<2 ^ 64):=hZ64
  clear hME hMC hrg hnl hMW HS hZ64
  have HF:Aside (∀ W a c,W.ownsRow w4.heap.size 38 32 (.slice a (PC Z) c) (PC Z) (z00 (MUPS d (TPS Z) M lv nd))→HX.Tabled W→Calls Tryz.prog 41 #[.int .i64 d,.int .u64 (Z:Int),.slice a (PC Z) c] W fun e w'=>e=.returned (.tuple #[.agg (z00 (z0x d Z (FLD d (MUPS d (TPS Z) M lv nd) (PC Z)))).toArray,.int .i64 0])∧Below W.heap.size W w'):=fun W a c h hT=>by
    have:=zfd d Z HZ.out a (PC Z) c (MUPS d (TPS Z) M lv nd) W (z1F h HR.out.1) hT
    rwa [HBG.out] at this
  have HVV:Aside ((z0x d Z (FLD d (MUPS d (TPS Z) M lv nd) (PC Z))≠root→V=80)∧(z0x d Z (FLD d (MUPS d (TPS Z) M lv nd) (PC Z))=root→V=0)∧IsH root):=by
    have h1:=HV.out.1.unlike HD.out.1 HD.out.2.1 HD.out.2.2.1 HR.out.2
    have h2:=HV.out.1.ok HD.out.1 HD.out.2.1 HD.out.2.2.1 HR.out.2
    rw [HD.out.2.2.2] at h1 h2
    exact ⟨h1,h2,HV.out.2⟩
  have hYH:=z32 d Z (FLD d (MUPS d (TPS Z) M lv nd) (PC Z))
  clear HV HD HR HBG HZ
  generalize z0x d Z (FLD d (MUPS d (TPS Z) M lv nd) (PC Z))=Y at *
  generalize MUPS d (TPS Z) M lv nd=U at *
  generalize PC Z=pz at *
  go_wp2_with fail
  refine cc.mono ?_
  rintro e w5 ⟨a6,c6,rfl,o6,hb5⟩
  clear cc x0 x1 x2
  have cg:=HF.out w5 a6 c6 o6 (W4.out.2.2.below hb5)
  have W5:Aside (Below w.heap.size w w5∧Has w5 b7 (z00 root).toArray 38):=⟨W4.out.1.trans (hb5.mono W4.out.1.size),W4.out.2.1.keep hb5⟩
  clear HF o6 hb5 W4
  have y32:=hYH.1
  have r32:=HVV.out.2.2.1
  go_wp2_with fail
  refine cg.mono ?_
  rintro e w6 ⟨rfl,hb6⟩
  clear cg
  have R1:Aside (Below w.heap.size w (w6.alloc (.cells (z00 Y).toArray 38))∧Has (w6.alloc (.cells (z00 Y).toArray 38)) b7 (z00 root).toArray 38∧Has (w6.alloc (.cells (z00 Y).toArray 38)) w6.heap.size (z00 Y).toArray 38):=by
    have hb:=W5.out.1.trans (hb6.mono W5.out.1.size)
    exact ⟨hb.alloc hb.size _,(W5.out.2.keep hb6).alloc _,Has.new _ _ _⟩
  clear hb6 W5
  go_upto_region 12 with (first
    | (refine wpList_store_row rfl 38 (.tmp 16) (.tmp 50) rfl _ _ rfl rfl 38 _ (Has.new w6 _ _) (z05 y32) (by simp [z00,y32]) (z0l Y) ?_;rw [World.setRow_alloc_new])
    | fail)
  generalize w6.alloc (.cells (z00 Y).toArray 38)=W6 at *
  generalize w6.heap.size=b16 at *
  have hb:=R1.out.1
  have h7:=R1.out.2.1
  have h9:=R1.out.2.2
  have hq:=zbZ hYH HVV.out.2.2
  clear R1 hYH
  by_cases hYr:Y=root
  · have FN:Aside (V=0):=HVV.out.2.1 hYr
    rw [decide_eq_true hYr] at hq
    clear HVV hYr
    go_wp2_with (first
      | (refine z1S (by rfl) 38 (.tmp 16) rfl 32 5 b16 rfl 38 (z00 Y).toArray (0,0) h9 Tryz.underlying38 (z05 y32) ?_)
      | (refine z1S (by rfl) 38 (.tmp 7) rfl 32 5 b7 rfl 38 (z00 root).toArray (0,0) h7 Tryz.underlying38 (z05 r32) ?_)
      | fail)
    go_ret
    exact ⟨by rw [FN.out];rfl,hb⟩
  · have FN:Aside (V=80):=HVV.out.1 hYr
    rw [decide_eq_false hYr] at hq
    clear HVV hYr
    go_wp2_with (first
      | (refine z1S (by rfl) 38 (.tmp 16) rfl 32 5 b16 rfl 38 (z00 Y).toArray (0,0) h9 Tryz.underlying38 (z05 y32) ?_)
      | (refine z1S (by rfl) 38 (.tmp 7) rfl 32 5 b7 rfl 38 (z00 root).toArray (0,0) h7 Tryz.underlying38 (z05 r32) ?_)
      | fail)
    go_ret
    exact ⟨by rw [FN.out];rfl,hb⟩
end Go.Proofs.YtlicfinmibbpdaaGreatDoor

namespace Go.Proofs.YtlicfinmibbpdaaGreatDoor
open Go.RowKit
set_option maxRecDepth 100000
set_option maxHeartbeats 16000000 in
theorem z6i (d:Int) (root:List Int) (hroot:IsH root) (N:Nat) (ai:Option Addr) (n ci:Nat) (L:List Nat) (al:Option Addr) (nl cl:Nat) (lv:List Int) (ab:Option Addr) (k cb:Nat) (b:List Int) (w:World) (hl:L.length=n) (hn:n≤200) (hL:NUML w ai L) (hFl:Flat w al nl lv) (hcl:nl≤cl) (hB:Bytes w ab k b) (hkb:k≤cb) (hk:k≤6400) (hi:∀ x∈L,x<2 ^ 64):
    Calls Tryz.prog 17 #[.int .i64 d,.agg (z00 root).toArray,.int .u64 (N:Int),.slice ai n ci,.slice al nl cl,.slice ab k cb] w fun e w'=>e=.returned (.int .i64 (MVA d root N L nl lv b))∧Below w.heap.size w w':=by
  have SV:=z85 d root N L nl lv b
  have hMT:=z6K (b:=b) hB.2.2
  have hbl:b.length=k:=hB.1
  generalize MVA d root N L nl lv b=V at *
  obtain ⟨w1,e1⟩:∃ w1,w.alloc (.cells (z00 root).toArray 38)=w1:=⟨_,rfl⟩
  obtain ⟨b7,hb7⟩:∃ b,w.heap.size=b:=⟨_,rfl⟩
  have hb1:Below w.heap.size w w1:=by rw [← e1];exact (Below.refl _ _).alloc (Nat.le_refl _) _
  have hR1:Has w1 b7 (z00 root).toArray 38:=by rw [← e1,← hb7];exact Has.new _ _ _
  have cd:=z6h ab k cb b w1 (hB.below hb1) hkb (by omega)
  have HA:Aside (L.length=n∧n≤200∧NUML w ai L∧Flat w al nl lv∧nl≤cl∧(∀ x∈L,x<2 ^ 64)∧k≤6400∧b.length=k):=⟨hl,hn,hL,hFl,hcl,hi,hk,hbl⟩
  have H1:Aside (Below w.heap.size w w1∧Has w1 b7 (z00 root).toArray 38):=⟨hb1,hR1⟩
  have HM:Aside ((MDC b).1=0→(MDC b).2.1≤4611686018427387904∧z07 (MDC b).2.2.1 (MDC b).2.1=0∧(MDC b).2.2.2.length=32*(z04 (TPS (MDC b).2.1) (MDC b).2.2.1).length∧(MDC b).2.2.1.length+(MDC b).2.2.2.length≤b.length∧∀ x∈(MDC b).2.2.2,0≤x∧x≤255):=hMT
  have HV:Aside (MVAS d root N L nl lv b V∧IsH root):=⟨SV,hroot⟩
  clear hl hn hL hFl hcl hi hB hkb hk hb1 hR1 SV hMT hroot hbl
  obtain ⟨E,hE⟩:∃ E,(MDC b).1=E:=⟨_,rfl⟩
  obtain ⟨Z,hZ⟩:∃ Z,(MDC b).2.1=Z:=⟨_,rfl⟩
  obtain ⟨M,hM⟩:∃ M,(MDC b).2.2.1=M:=⟨_,rfl⟩
  obtain ⟨nd,hnd⟩:∃ nd,(MDC b).2.2.2=nd:=⟨_,rfl⟩
  have HD:Aside (((MDC b).1=E∧(MDC b).2.1=Z∧(MDC b).2.2.1=M∧(MDC b).2.2.2=nd)):=⟨hE,hZ,hM,hnd⟩
  unfold DECM at cd
  rw [hE,hZ,hM,hnd] at cd
  clear hE hZ hM hnd
  go_enter Tryz.func17,Tryz.ntmps17
  go_upto_region 1 with fail
  clear e1 hb7
  go_wp2_with fail
  refine cd.mono ?_
  rintro e w2 ⟨a3,c3,a4,K,c4,rfl,o3,o4,hK,hb2⟩
  clear cd
  have hb12:Below w.heap.size w w2:=H1.out.1.trans (hb2.mono H1.out.1.size)
  go_upto_region 2 with fail
  obtain ⟨w3,e3⟩:∃ w3,w2.alloc (.cells #[.int .u64 (Z:Int),.slice a3 M.length c3,.slice a4 K c4] 26)=w3:=⟨_,rfl⟩
  have hb3:Below w2.heap.size w2 w3:=by rw [← e3];exact (Below.refl _ _).alloc (Nat.le_refl _) _
  have hP3:Has w3 w2.heap.size #[.int .u64 (Z:Int),.slice a3 M.length c3,.slice a4 K c4] 26:=by rw [← e3];exact Has.new _ _ _
  rw [e3]
  have W3:Aside (Below w.heap.size w w3∧Has w3 b7 (z00 root).toArray 38∧Has w3 w2.heap.size #[.int .u64 (Z:Int),.slice a3 M.length c3,.slice a4 K c4] 26∧w3.ownsRow w1.heap.size 23 1 (.slice a3 M.length c3) M.length (z02 M)∧w3.ownsRow w1.heap.size 38 32 (.slice a4 K c4) K (z00 nd)∧nd.length=32*K):=⟨hb12.trans (hb3.mono hb12.size),(H1.out.2.keep hb2).keep hb3,hP3,z0u o3 fun k e=>hb3.block k (o3.lt k e).2,z0u o4 fun k e=>hb3.block k (o4.lt k e).2,hK⟩
  have x0:=hP3.cell 0
  have x1:=hP3.cell 1
  have x2:=hP3.cell 2
  generalize w2.heap.size=b13 at *
  clear e3 hb3 hP3 hb2 hb12 o3 o4 hK H1
  by_cases hE:E=0
  case neg=>
    have FN:Aside (V=E∧Below w.heap.size w w3):=⟨by rw [← HD.out.1];exact HV.out.1.dec (by rw [HD.out.1];exact hE),W3.out.1⟩
    have hne:(E == 0)=false:=beq_eq_false_iff_ne.2 hE
    clear HV HM HA HD W3 hE
    go_wp2_with fail
    go_ret
    exact ⟨by rw [FN.out.1];rfl,FN.out.2⟩
  subst hE
  by_cases hZ:Z=N
  case neg=>
    have FN:Aside (V=30∧Below w.heap.size w w3):=⟨HV.out.1.size HD.out.1 (by rw [HD.out.2.1];exact hZ),W3.out.1⟩
    have hne:((Z:Int) == (N:Int))=false:=beq_eq_false_iff_ne.2 (by omega)
    clear HV HM HA HD W3 hZ
    go_wp2_with fail
    go_ret
    exact ⟨by rw [FN.out.1];rfl,FN.out.2⟩
  subst hZ
  have ce:=z6U a3 ai M.length n c3 ci M L rfl HA.out.1 (by have:=HM.out HD.out.1;rw [HD.out.2.2.1,HD.out.2.2.2] at this;have:=HA.out;omega) w3 (z20 W3.out.2.2.2.1 rfl) (HA.out.2.2.1.keep W3.out.1)
  go_wp2_with fail
  refine ce.mono ?_
  rintro e w4 ⟨rfl,hb4⟩
  clear ce x0 x1 x2
  have hb34:Below w.heap.size w w4:=W3.out.1.trans (hb4.mono W3.out.1.size)
  by_cases hML:M=L
  case neg=>
    have FN:Aside (V=32∧Below w.heap.size w w4):=⟨HV.out.1.index HD.out.1 HD.out.2.1 (by rw [HD.out.2.2.1];exact hML),hb34⟩
    have hne:decide (M=L)=false:=decide_eq_false hML
    rw [hne]
    clear HV HM HA HD W3 hb4 hb34 hne hML
    go_wp2_with fail
    go_ret
    exact ⟨by rw [FN.out.1];rfl,FN.out.2⟩
  subst hML
  rw [show decide (M=M)=true by simp]
  have hMZ:=HM.out HD.out.1
  rw [HD.out.2.1,HD.out.2.2.1,HD.out.2.2.2] at hMZ
  obtain ⟨m1,m2,m3,m4,m5⟩:=hMZ
  have hP4:=W3.out.2.2.1.keep hb4
  have x0:=hP4.cell 0
  have x1:=hP4.cell 1
  have x2:=hP4.cell 2
  have hMW:MWA M Z K=0:=z4B m2 (by have:=W3.out.2.2.2.2.2;omega)
  have hcap4:=z2L W3.out.2.2.2.2.1
  have cc:=z6T d M Z (by omega) a3 M.length c3 a4 K c4 al nl cl lv nd w4 rfl (by have:=HA.out;omega) HA.out.2.2.2.2.2.1 (by have:=HA.out;have:=W3.out.2.2.2.2.2;omega) ((z20 W3.out.2.2.2.1 rfl).keep hb4) ((z1F W3.out.2.2.2.2.1 m5).below hb4) hcap4.1 (HA.out.2.2.2.1.below hb34) HA.out.2.2.2.2.1
  have HLN:Aside (M.length=n):=HA.out.1
  have W4:Aside (Below w.heap.size w w4∧Has w4 b7 (z00 root).toArray 38):=⟨hb34,W3.out.2.1.keep hb4⟩
  have HS:Aside (Z≤4611686018427387904∧HSS nl lv∧HSS K nd):=⟨m1,⟨HA.out.2.2.2.1.1,HA.out.2.2.2.1.2.2⟩,⟨W3.out.2.2.2.2.2,m5⟩⟩
  clear m1 m2 m3 m4 m5 hP4 hcap4 W3 HA HM hb4 hb34
  by_cases hnl:nl=M.length
  case neg=>
    have FN:Aside (V=70∧Below w.heap.size w w4):=⟨HV.out.1.count HD.out.1 HD.out.2.1 HD.out.2.2.1 hnl,W4.out.1⟩
    have hne:((nl:Int) == (n:Int))=false:=beq_eq_false_iff_ne.2 (by have:=HLN.out;omega)
    clear HV HD HS hnl hMW W4 cc HLN
    go_wp2_with fail
    go_ret
    exact ⟨by rw [FN.out.1];rfl,FN.out.2⟩
  have hnn:(nl:Int)=(n:Int):=by have:=HLN.out;omega
  have hME:MCE M Z K nl=0:=z5L hMW hnl
  have hMC:MCL d M Z K nl lv nd=(0,PC Z,MUPS d (TPS Z) M lv nd):=by unfold MCL;rw [if_pos hME]
  have hrg:=z6J (d:=d) (L:=M) (N:=Z) HS.out.2.1 HS.out.2.2
  rw [hMC] at cc hrg
  have HR:Aside ((∀ y∈MUPS d (TPS Z) M lv nd,0≤y∧y≤255)∧nl=M.length):=⟨hrg,hnl⟩
  have HZ:Aside (Z≤4611686018427387904):=HS.out.1
  clear hME hMC hrg hnl hMW HS HLN
  have HF:Aside (∀ W a c,W.ownsRow w4.heap.size 38 32 (.slice a (PC Z) c) (PC Z) (z00 (MUPS d (TPS Z) M lv nd))→Calls Tryz.prog 39 #[.int .i64 d,.int .u64 (Z:Int),.slice a (PC Z) c] W fun e w'=>e=.returned (.tuple #[.agg (z00 (z0x d Z (FLD d (MUPS d (TPS Z) M lv nd) (PC Z)))).toArray,.int .i64 0])∧Below W.heap.size W w'):=fun W a c h=>zaE d Z HZ.out a (PC Z) c rfl (MUPS d (TPS Z) M lv nd) W (z1F h HR.out.1)
  have HVV:Aside ((z0x d Z (FLD d (MUPS d (TPS Z) M lv nd) (PC Z))≠root→V=80)∧(z0x d Z (FLD d (MUPS d (TPS Z) M lv nd) (PC Z))=root→V=0)∧IsH root):=by
    have h1:=HV.out.1.unlike HD.out.1 HD.out.2.1 HD.out.2.2.1 HR.out.2
    have h2:=HV.out.1.ok HD.out.1 HD.out.2.1 HD.out.2.2.1 HR.out.2
    rw [HD.out.2.2.2] at h1 h2
    exact ⟨h1,h2,HV.out.2⟩
  have hYH:=z32 d Z (FLD d (MUPS d (TPS Z) M lv nd) (PC Z))
  clear HV HD HR HZ
  generalize z0x d Z (FLD d (MUPS d (TPS Z) M lv nd) (PC Z))=Y at *
  generalize MUPS d (TPS Z) M lv nd=U at *
  generalize PC Z=pz at *
  go_wp2_with fail
  refine cc.mono ?_
  rintro e w5 ⟨a6,c6,rfl,o6,hb5⟩
  clear cc x0 x1 x2
  have cg:=HF.out w5 a6 c6 o6
  have W5:Aside (Below w.heap.size w w5∧Has w5 b7 (z00 root).toArray 38):=⟨W4.out.1.trans (hb5.mono W4.out.1.size),W4.out.2.keep hb5⟩
  clear HF o6 hb5 W4
  have y32:=hYH.1
  have r32:=HVV.out.2.2.1
  go_wp2_with fail
  refine cg.mono ?_
  rintro e w6 ⟨rfl,hb6⟩
  clear cg
  have R1:Aside (Below w.heap.size w (w6.alloc (.cells (z00 Y).toArray 38))∧Has (w6.alloc (.cells (z00 Y).toArray 38)) b7 (z00 root).toArray 38∧Has (w6.alloc (.cells (z00 Y).toArray 38)) w6.heap.size (z00 Y).toArray 38):=by
    have hb:=W5.out.1.trans (hb6.mono W5.out.1.size)
    exact ⟨hb.alloc hb.size _,(W5.out.2.keep hb6).alloc _,Has.new _ _ _⟩
  clear hb6 W5
  go_upto_region 12 with (first
    | (refine wpList_store_row rfl 38 (.tmp 17) (.tmp 53) rfl _ _ rfl rfl 38 _ (Has.new w6 _ _) (z05 y32) (by simp [z00,y32]) (z0l Y) ?_;rw [World.setRow_alloc_new])
    | fail)
  generalize w6.alloc (.cells (z00 Y).toArray 38)=W6 at *
  generalize w6.heap.size=b16 at *
  have hb:=R1.out.1
  have h7:=R1.out.2.1
  have h9:=R1.out.2.2
  have hq:=zbZ hYH HVV.out.2.2
  clear R1 hYH
  by_cases hYr:Y=root
  · have FN:Aside (V=0):=HVV.out.2.1 hYr
    rw [decide_eq_true hYr] at hq
    clear HVV hYr
    go_wp2_with (first
      | (refine wpList_load_row rfl 38 (.tmp 17) rfl b16 rfl 38 (z00 Y).toArray (0,0) _ h9 Tryz.underlying38 rfl (z05 y32) ?_)
      | (refine wpList_load_row rfl 38 (.tmp 7) rfl b7 rfl 38 (z00 root).toArray (0,0) _ h7 Tryz.underlying38 rfl (z05 r32) ?_)
      | fail)
    go_ret
    exact ⟨by rw [FN.out];rfl,hb⟩
  · have FN:Aside (V=80):=HVV.out.1 hYr
    rw [decide_eq_false hYr] at hq
    clear HVV hYr
    go_wp2_with (first
      | (refine wpList_load_row rfl 38 (.tmp 17) rfl b16 rfl 38 (z00 Y).toArray (0,0) _ h9 Tryz.underlying38 rfl (z05 y32) ?_)
      | (refine wpList_load_row rfl 38 (.tmp 7) rfl b7 rfl 38 (z00 root).toArray (0,0) _ h7 Tryz.underlying38 rfl (z05 r32) ?_)
      | fail)
    go_ret
    exact ⟨by rw [FN.out];rfl,hb⟩
end Go.Proofs.YtlicfinmibbpdaaGreatDoor

namespace Go.Proofs.YtlicfinmibbpdaaGreatDoor
open Go.RowKit
set_option maxRecDepth 100000
def H7:List Int:=7 :: List.replicate 31 0
theorem zff:(z00 H7).toArray=#[.int .u8 7,.int .u8 0,.int .u8 0,.int .u8 0,.int .u8 0,.int .u8 0,.int .u8 0,.int .u8 0,.int .u8 0,.int .u8 0,.int .u8 0,.int .u8 0,.int .u8 0,.int .u8 0,.int .u8 0,.int .u8 0,.int .u8 0,.int .u8 0,.int .u8 0,.int .u8 0,.int .u8 0,.int .u8 0,.int .u8 0,.int .u8 0,.int .u8 0,.int .u8 0,.int .u8 0,.int .u8 0,.int .u8 0,.int .u8 0,.int .u8 0,.int .u8 0]:=rfl
theorem zaJ:PLCA [1,2] 7=[0,4,9,10]:=by decide +kernel
theorem z8U:z07 [1,2] 7=0:=by decide +kernel
theorem zaK:MENC [0,2] 3 1 H7=(0,78 :: 3 :: 2 :: 0 :: 1 :: H7):=by decide +kernel
theorem z9B (w:World) (x y:Nat):NUML (w.alloc (.cells #[.int .u64 (x:Int),.int .u64 (y:Int)] 23)) (some ⟨w.heap.size,0,none⟩) [x,y]:=fun _=>by
  refine ⟨w.heap.size,0,rfl,by simp,fun i z hz=>?_⟩
  have h:=(Has.new w #[.int .u64 (x:Int),.int .u64 (y:Int)] 23).cell (0+i)
  rw [h,Nat.zero_add]
  match i with
  | 0=>simp at hz;subst hz;rfl
  | 1=>simp at hz;subst hz;rfl
  | i+2=>simp at hz
theorem z86 {w:World} {B s n c:Nat} {t:TypeId} {a:Option Addr} {xs:List Value} (h:w.ownsRow B t s (.slice a n c) n xs) (hn:0<n):∃ g,a=some ⟨g,0,none⟩:=by
  rcases h.2 with ⟨e,h0⟩ | ⟨g,cap,cur,e,_⟩
  · omega
  · simp only [Value.slice.injEq] at e
    exact ⟨g,e.1⟩
theorem zaL (w:World):Flat (w.alloc (.cells (z00 H7).toArray 38)) (some ⟨w.heap.size,0,none⟩) 1 H7:=by
  refine ⟨rfl,fun _=>⟨w.heap.size,0,rfl,by simp,fun j hj=>?_⟩,by decide⟩
  rw [(Has.new w (z00 H7).toArray 38).cell (0+j),Nat.zero_add,List.getElem?_toArray]
  exact z0p H7 j hj
set_option maxHeartbeats 2000000 in
theorem zaM (w:World) (hT:Tabled w) (h0:0<w.heap.size):Calls Tryz.prog 14 #[] w fun e w'=>e=.returned (.bool true)∧Below w.heap.size w w':=by
  obtain ⟨w1,e1⟩:∃ w1,w.alloc (.cells #[.int .u64 1,.int .u64 2] 23)=w1:=⟨_,rfl⟩
  have hb1:Below w.heap.size w w1:=by rw [← e1];exact (Below.refl _ _).alloc (Nat.le_refl _) _
  have s1:w1.heap.size=w.heap.size+1:=by rw [← e1];simp
  have cp:=z6Q [1,2] 7 (some ⟨w.heap.size,0,none⟩) 2 2 w1 rfl (by decide) (by decide) (fun h=>by cases h) (fun x e=>by cases e;exact ⟨by show w.heap.size<w1.heap.size;omega,rfl⟩) (by rw [← e1];exact z9B w 1 2) (hT.below h0 hb1) (by omega)
  rw [zaJ,z8U] at cp
  have B1:Aside (Below w.heap.size w w1∧Tabled w∧0<w.heap.size):=⟨hb1,hT,h0⟩
  clear hb1 s1 hT h0
  go_enter Tryz.func14,Tryz.ntmps14
  go_wp2_with fail
  refine cp.mono ?_
  rintro e w2 ⟨a2,c2,rfl,hown2,hb2⟩
  clear cp e1
  have R2:Aside (w2.ownsRow w1.heap.size 23 1 (.slice a2 4 c2) 4 (z02 [0,4,9,10])∧Below w.heap.size w w2):=⟨hown2,B1.out.1.trans (hb2.mono B1.out.1.size)⟩
  clear hown2 hb2
  obtain ⟨w3,e3⟩:∃ w3,w2.alloc (.cells #[.int .u64 0,.int .u64 2] 23)=w3:=⟨_,rfl⟩
  have s3:w3.heap.size=w2.heap.size+1:=by rw [← e3];simp
  obtain ⟨w4,e4⟩:∃ w4,w3.alloc (.cells (z00 H7).toArray 38)=w4:=⟨_,rfl⟩
  have hb3:Below w2.heap.size w2 w3:=by rw [← e3];exact (Below.refl _ _).alloc (Nat.le_refl _) _
  have hb4':Below w3.heap.size w3 w4:=by rw [← e4];exact (Below.refl _ _).alloc (Nat.le_refl _) _
  have hb4:Below w2.heap.size w2 w4:=hb3.trans (hb4'.mono hb3.size)
  have hbw4:Below w.heap.size w w4:=R2.out.2.trans (hb4.mono R2.out.2.size)
  have hN4:NUML w4 (some ⟨w2.heap.size,0,none⟩) [0,2]:=by
    have h1:=z9B w2 0 2
    have h2:NUML w3 (some ⟨w2.heap.size,0,none⟩) [0,2]:=by rw [← e3];exact h1
    exact h2.below hb4' (fun x e=>by cases e;show w2.heap.size<w3.heap.size;omega)
  have hF4:Flat w4 (some ⟨w2.heap.size+1,0,none⟩) 1 H7:=by rw [← e4,← s3];exact zaL w3
  have ce:=z6R [0,2] 3 (some ⟨w2.heap.size,0,none⟩) 2 2 (some ⟨w2.heap.size+1,0,none⟩) 1 1 H7 w4 rfl (by decide) (by decide) (fun h=>by cases h) (fun x e=>by cases e;exact ⟨by show w2.heap.size<w4.heap.size;have:=hb4'.size;omega,rfl⟩) (by decide) hN4 hF4 (B1.out.2.1.below B1.out.2.2 hbw4) (by have:=B1.out.2.2;have:=hbw4.size;omega)
  rw [zaK] at ce
  rw [zff] at e4
  have hM:MBOX 3 (some ⟨w2.heap.size,0,none⟩) 2 2 (some ⟨w2.heap.size+1,0,none⟩) 1 1=#[.int .u64 3,.slice (some ⟨w2.heap.size,0,none⟩) 2 2,.slice (some ⟨w2.heap.size+1,0,none⟩) 1 1]:=rfl
  rw [hM] at ce
  have R4:Aside (w4.ownsRow w1.heap.size 23 1 (.slice a2 4 c2) 4 (z02 [0,4,9,10])∧Below w.heap.size w w4):=⟨z0o R2.out.1 hb4,hbw4⟩
  clear hM hb3 hb4' hb4 hbw4 hN4 hF4 R2 B1
  go_wp2_with fail
  refine ce.mono ?_
  rintro e w5 ⟨a5,c5,rfl,hown5,hb5⟩
  clear ce e3 e4
  have o2:=z0o R4.out.1 hb5
  obtain ⟨g2,rfl⟩:=z86 o2 (by decide)
  obtain ⟨g5,rfl⟩:=z86 hown5 (by decide)
  have y0:w5.cell? ⟨g2,0,none⟩=some (.int .u64 0):=o2.cellAt 0 (by decide)
  have y1:w5.cell? ⟨g2,1,none⟩=some (.int .u64 4):=o2.cellAt 1 (by decide)
  have y2:w5.cell? ⟨g2,2,none⟩=some (.int .u64 9):=o2.cellAt 2 (by decide)
  have z0:w5.cell? ⟨g5,0,none⟩=some (.int .u8 78):=hown5.cellAt 0 (by decide)
  have z4:w5.cell? ⟨g5,4,none⟩=some (.int .u8 1):=hown5.cellAt 4 (by decide)
  have z5:w5.cell? ⟨g5,5,none⟩=some (.int .u8 7):=hown5.cellAt 5 (by decide)
  have FN:Aside (Below w.heap.size w w5):=R4.out.2.trans (hb5.mono R4.out.2.size)
  have hlen:(78 :: 3 :: 2 :: 0 :: 1 :: H7).length=37:=rfl
  rw [hlen]
  clear o2 hown5 hb5 R4 s3
  go_wp2_with fail
  go_ret
  exact ⟨rfl,FN.out⟩
end Go.Proofs.YtlicfinmibbpdaaGreatDoor

namespace Go.Proofs.YtlicfinmibbpdaaGreatDoor
open Go.RowKit
set_option maxRecDepth 100000
theorem zdG {ops:Array Oper} {rest:List Oper} {o:Oper} {a:Act} {Q:Exit→Act→World→Prop} (w:World) (hgd:o.guard=none) (s x:Operand)
    (ho:o.op=.call {callee:=.builtin .append,args:=#[s,x],argTypes:=#[24,24]})
    (base:Nat) (v:Value) (n:Nat) (xs:List Value) (hs:a.eval s=v) (hown:w.ownsRow base 23 1 v n xs)
    (ad:Option Addr) (m c:Nat) (L:List Nat) (hx:a.eval x=.slice ad m c) (hL:NUML w ad L) (hl:L.length=m) (hc:ad=none→c=0)
    (hb:n+m≤2 ^ 30) (hbase:base≤w.heap.size)
    (hh:∀ a' c' w',w'.ownsRow base 23 1 (.slice a' (n+m) c') (n+m) (xs ++ z02 L)→w.grownBy w' v.ownBlock→wpList Tryz.prog ops Q rest (a.put o.dst (.slice a' (n+m) c')) w'):wpList Tryz.prog ops Q (o :: rest) a w:=by
  obtain ⟨i,hi,hz,hs1,hby⟩:=info_parts z1r
  cases ad with
  | none=>
    obtain rfl:=hc rfl
    have hL0:L=[]:=by
      cases L with
      | nil=>rfl
      | cons y l=>
        obtain ⟨b,o',e,_⟩:=hL (by simp)
        cases e
    subst hL0
    obtain rfl:m=0:=by simpa using hl.symm
    refine wpList_append_own_none hgd s x 24 ho base 23 i 1 Tryz.underlying24 hi v n xs hs hown hx ?_
    obtain ⟨a',c',rfl⟩:=z18 hown
    have:=hh a' c' w (by simpa [z02] using hown) ⟨rfl,rfl,rfl,Nat.le_refl _,fun _ _ _=>rfl⟩
    simpa using this
  | some ad=>
    have hcells:∀ j u,(z02 L)[j]?=some u→w.cell? (ad.add j)=some u:=by
      intro j u hu
      have hj:j<L.length:=by have:=(List.getElem?_eq_some_iff.1 hu).1;rwa [z1e] at this
      obtain ⟨g,o',e,_,hr⟩:=hL (by omega)
      cases e
      rw [Addr.add_mid,hr j _ (List.getElem?_eq_getElem hj)]
      rw [z02,List.getElem?_map,List.getElem?_eq_getElem hj] at hu
      exact hu
    refine wpList_append_own w hgd s x 24 ho base 23 i (.int .u64 0) 1 8 Tryz.underlying24 hi hz hs1 hby rfl (by decide) v n xs hs hown ad m c (z02 L) hx (by rw [z1e];omega) hcells (fun u hu=>by
      obtain ⟨y,_,rfl⟩:=List.mem_map.1 hu
      rfl) (by simp only [maxLen];omega) (by omega) hbase ?_
    intro v' w' h1 h2 _
    obtain ⟨a',c',rfl⟩:=z18 h1
    exact hh a' c' w' h1 h2
theorem z8V (w:World):(w.alloc (.cells #[] 23)).ownsRow w.heap.size 23 1 (.slice (some ⟨w.heap.size,0,none⟩) 0 0) 0 []:=
  World.ownsRow_lit w #[] 0 (Nat.le_refl _) (by simp [maxLen]) rfl
theorem zaN {w:World} {base g n cap:Nat} {L:List Nat} {x:Nat} (hl:L.length=n) (h:w.ownsRow base 23 1 (.slice (some ⟨g,0,none⟩) (n+1) cap) (n+1) (z02 (L ++ [x]))):w.ownsRow base 23 1 (.slice (some ⟨g,0,none⟩) n cap) n (z02 L)∧n+1≤cap∧w.cell? ⟨g,n,none⟩=some (.int .u64 (x:Int))∧g<w.heap.size:=by
  have hr:w.cell? ⟨g,n,none⟩=some (.int .u64 (x:Int)):=by
    rw [h.cellAt n (by omega),z1y,List.getElem?_append_right (by rw [z1e];omega),z1e,hl,Nat.sub_self]
    rfl
  rcases h.2 with ⟨e,_⟩ | ⟨g',cap',cur,e,hb,hg,h1,h2,h3,h4⟩
  · cases e
  · cases e
    refine ⟨⟨by rw [z1e,hl,Nat.mul_one],.inr ⟨g,cap,cur,rfl,hb,hg,by omega,h2,h3,?_⟩⟩,h1,hr,(Array.getElem?_eq_some_iff.1 hg).1⟩
    have h5:=congrArg (List.take (n*1)) h4
    rw [List.take_take,show min (n*1) ((n+1)*1)=n*1 by omega] at h5
    rw [h5,z1y,List.take_left' (by rw [z1e,hl,Nat.mul_one])]
structure NUMD (w w':World) (g n cap:Nat) (L:List Nat):Prop where
  own:w'.ownsRow w.heap.size 23 1 (.slice (some ⟨g,0,none⟩) n cap) n (z02 L)
  room:n+1≤cap
  mark:w'.cell? ⟨g,n,none⟩=some (.int .u64 171)
  lt:g<w'.heap.size
  base:w.heap.size≤g
  below:Below w.heap.size w w'
theorem NUMD.lies {w w':World} {g n cap:Nat} {L:List Nat} (h:NUMD w w' g n cap L) (hl:L.length=n):NUML w' (some ⟨g,0,none⟩) L:=fun _=>⟨g,0,rfl,h.lt,fun i x hx=>by
  have hi:i<L.length:=(List.getElem?_eq_some_iff.1 hx).1
  rw [Nat.zero_add,h.own.cellAt i (by omega),z02,List.getElem?_map,hx]
  rfl⟩
set_option maxHeartbeats 1000000 in
theorem z87 (a:Option Addr) (n c:Nat) (L:List Nat) (hl:L.length=n) (hn:n<2 ^ 20) (hc:a=none→c=0) (w:World) (hL:NUML w a L):Calls Tryz.prog 15 #[.slice a n c] w fun e w'=>∃ g cap,e=.returned (.slice (some ⟨g,0,none⟩) n cap)∧NUMD w w' g n cap L:=by
  have HA:Aside (L.length=n∧n<2 ^ 20∧(a=none→c=0)∧NUML w a L):=⟨hl,hn,hc,hL⟩
  clear hl hn hc hL
  go_enter Tryz.func15,Tryz.ntmps15
  go_wp2_with (first
    | (at_builtin;refine zdG _ rfl (.tmp 3) (.tmp 4) rfl w.heap.size (.slice (some ⟨w.heap.size,0,none⟩) 0 0) 0 [] rfl (z8V w) a n c L rfl (fun hp=>by
         obtain ⟨b,o,e,hlt,hcc⟩:=HA.out.2.2.2 hp
         exact ⟨b,o,e,by simp;omega,fun i x hx=>(((Below.refl w.heap.size w).alloc (Nat.le_refl _) _).cell (p:=⟨b,o+i,none⟩) hlt).trans (hcc i x hx)⟩) HA.out.1 HA.out.2.2.1 (by have:=HA.out.2.1;omega) (by simp) ?_;rw [Nat.zero_add,List.nil_append];intro a1 c1 w1 hown1 hgrow1
       have R1:Aside (w1.ownsRow w.heap.size 23 1 (.slice a1 n c1) n (z02 L)∧Below w.heap.size w w1):=⟨hown1,((Below.refl _ w).alloc (Nat.le_refl _) _).grown hgrow1 (by simp) (fun k e=>by cases e;exact Nat.le_refl _)⟩
       clear hown1 hgrow1)
    | (at_builtin;refine z3q _ rfl (.tmp 5) (.tmp 6) rfl w.heap.size (.slice a1 n c1) n L rfl (R1.out.1.alloc _) w1.heap.size 1 171 rfl ((Has.new _ _ _).cell 0) (by have:=HA.out.2.1;omega) (by have:=R1.out.2.size;simp;omega) ?_;intro g2 c2 w2 hown2 hgrow2 hg2
       obtain ⟨f1,f2,f3,f4⟩:=zaN HA.out.1 hown2
       have hcap:(n:Int)≤(c2:Int):=by omega
       have R2:Aside (NUMD w w2 g2 n c2 L):=⟨f1,f2,f3,f4,(f1.lt g2 rfl).1,(R1.out.2.alloc R1.out.2.size _).grown hgrow2 (by have:=R1.out.2.size;simp;omega) (fun k e=>(R1.out.1.lt k e).1)⟩
       clear hown2 hgrow2 hg2 f1 f2 f3 f4))
  go_ret
  exact ⟨_,_,rfl,R2.out⟩
end Go.Proofs.YtlicfinmibbpdaaGreatDoor

namespace Go.Proofs.YtlicfinmibbpdaaGreatDoor
open Go.RowKit
set_option maxRecDepth 100000
set_option maxHeartbeats 1000000 in
theorem z8W (a b:Option Addr) (n ca cb:Nat) (L:List Nat) (hl:L.length=n) (hn:n≤2 ^ 24) (w:World) (hA:NUML w a L) (hB:NUML w b L):
    Calls Tryz.prog 36 #[.slice a n ca,.slice b n cb] w fun e w'=>e=.returned (.bool true)∧Below w.heap.size w w':=by
  rcases Nat.eq_zero_or_pos n with h | h
  · subst h
    clear hA hB hl
    go_enter Tryz.func36,Tryz.ntmps36
    go_wp2
    refine wp_loop_rounds 1 ?_
    rw [rounds_succ]
    go_wp2
    go_ret
    exact ⟨rfl,Below.refl _ _⟩
  · obtain ⟨ga,oa,rfl,la,hca⟩:=hA (by omega)
    obtain ⟨gb,ob,rfl,lb,hcb⟩:=hB (by omega)
    have HC:Aside ((∀ (i x:Nat),L[i]?=some x→w.cell? ⟨ga,oa+i,none⟩=some (.int .u64 (x:Int)))∧(∀ (i x:Nat),L[i]?=some x→w.cell? ⟨gb,ob+i,none⟩=some (.int .u64 (x:Int)))∧ga<w.heap.size∧gb<w.heap.size∧L.length=n∧n≤2 ^ 24):=⟨hca,hcb,la,lb,hl,hn⟩
    clear hA hB hca hcb la lb hl hn
    go_enter Tryz.func36,Tryz.ntmps36
    go_wp2
    go_loopg [5] n (fun g s5 wx=>∃ k:Nat,k+g=n∧s5=.int .i64 k∧Aside (Below w.heap.size w wx))
    case atStart=>exact ⟨0,by omega,rfl,Below.refl _ _⟩
    case round=>
      obtain ⟨k,hkg,rfl,A⟩:=hrel
      cases gk with
      | zero=>
        obtain rfl:k=n:=by omega
        go_wp2
        go_ret
        exact ⟨rfl,A.out⟩
      | succ g=>
        have hlt:(k:Int)<(n:Int):=by omega
        obtain ⟨x,ex⟩:∃ x,L[k]?=some x:=⟨_,List.getElem?_eq_getElem (by have:=HC.out.2.2.2.2.1;omega)⟩
        have h1:wr.cell? ⟨ga,oa+k,none⟩=some (.int .u64 (x:Int)):=(A.out.cell (by exact HC.out.2.2.1)).trans (HC.out.1 k x ex)
        have h2:wr.cell? ⟨gb,ob+k,none⟩=some (.int .u64 (x:Int)):=(A.out.cell (by exact HC.out.2.2.2.1)).trans (HC.out.2.1 k x ex)
        have hk24:k<2 ^ 24:=by have:=HC.out.2.2.2.2.2;omega
        clear ex
        go_wp2
        go_quiet (fail)
        go_wp2
        go_roundg g
        case measure=>omega
        case rel=>exact ⟨k+1,by omega,by go_num,below_drewN A.out _⟩
end Go.Proofs.YtlicfinmibbpdaaGreatDoor
