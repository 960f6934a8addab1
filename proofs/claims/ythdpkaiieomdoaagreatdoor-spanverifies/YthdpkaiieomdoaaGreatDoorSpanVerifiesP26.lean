/- Texts of SpanVerifies, one behind the other: SpanPeaks, SpanClimbCall, SpanReader, ProofReaders, ProofDecodeSteps, ProofDecode, ProofOwned. -/
import Derived.Test.YthdpkaiieomdoaaGreatDoorSpanVerifiesP21
import Derived.Test.YthdpkaiieomdoaaGreatDoorSpanVerifiesP25
namespace Go.Proofs.YthdpkaiieomdoaaGreatDoor
open Go.RowKit
set_option maxRecDepth 100000
set_option maxHeartbeats 4000000 in
theorem zdy (d:Int) (bw:Nat) (A X:List Int) (hA:IsH A) (hX:IsH X) (w:World) (hD:Has w bw #[.int .i64 d] 3) (hT:HX.Tabled w):
    Calls Tryz.prog 79 #[.agg (z00 A).toArray,.agg (z00 X).toArray,.pointer (some ⟨bw,0,none⟩)] w fun e w'=>e=.returned (.agg (z00 (z1R d A X)).toArray)∧Below w.heap.size w w':=by
  have lA:=hA.1
  have lX:=hX.1
  have hY:=z3G d A X
  obtain ⟨w1,e1⟩:∃ w1,w.alloc (.cells (z00 A).toArray 23)=w1:=⟨_,rfl⟩
  obtain ⟨w2,e2⟩:∃ w2,w1.alloc (.cells (z00 X).toArray 23)=w2:=⟨_,rfl⟩
  obtain ⟨w3,e3⟩:∃ w3,w2.alloc (.cells ZARR 23)=w3:=⟨_,rfl⟩
  obtain ⟨s,hs⟩:∃ s,w.heap.size=s:=⟨_,rfl⟩
  have s1:w1.heap.size=s+1:=by rw [← e1,← hs];simp
  have s2:w2.heap.size=s+2:=by rw [← e2];simp [s1]
  have hb:Below w.heap.size w w3:=by
    rw [← e3,← e2,← e1]
    exact (((Below.refl _ _).alloc (Nat.le_refl _) _).alloc (by simp) _).alloc (by simp;omega) _
  have x:w3.cell? ⟨bw,0,none⟩=some (.int .i64 d):=(hD.keep hb).cell 0
  have h3:Has w3 s (z00 A).toArray 23:=by rw [← e3,← e2,← e1,← hs];exact ((Has.new _ _ _).alloc _).alloc _
  have h4:Has w3 (s+1) (z00 X).toArray 23:=by rw [← e3,← e2,← s1];exact (Has.new _ _ _).alloc _
  have h5:Has w3 (s+2) (z00 ZND).toArray 23:=by rw [← e3,← s2,z0P];exact Has.new _ _ _
  have cn:=zd7 d A X hA hX w3 (hT.below hb)
  have HB:Aside (Below s w w3∧Has w3 (s+2) (z00 ZND).toArray 23∧w.heap.size=s):=⟨by rw [← hs];exact hb,h5,hs⟩
  rw [hs]
  clear hb hA hX hD hT h5
  generalize z1R d A X=Y at *
  have lY:=hY.1
  clear hY
  go_enter Tryz.func79,Tryz.ntmps79
  go_wp2_with (first
    | (refine wpList_load_row rfl 23 (.tmp 3) rfl s rfl 23 (z00 A).toArray (0,0) _ h3 Tryz.underlying23 rfl (z03 lA) ?_)
    | (refine wpList_load_row rfl 23 (.tmp 4) rfl (s+1) rfl 23 (z00 X).toArray (0,0) _ h4 Tryz.underlying23 rfl (z03 lX) ?_)
    | fail)
  refine cn.mono ?_
  rintro e w4 ⟨rfl,hb4⟩
  clear cn x h3 h4
  have H5:Has w4 (s+2) (z00 ZND).toArray 23:=HB.out.2.1.keep hb4
  have FN:Aside (Below s w (w4.setRow (s+2) (z00 Y).toArray)):=z04 (HB.out.1.trans (hb4.mono (by have:=HB.out.1.size;have:=HB.out.2.2;omega))) (by omega) _
  clear hb4 HB
  go_wp2_with (refine wpList_store_row rfl 23 (.tmp 5) (.tmp 9) rfl _ _ rfl rfl 23 _ H5 (z03 lY) (by simp [z00,lY];rfl) (z0i Y) ?_)
  refine bodyPost_ret (v:=.agg (z00 Y).toArray) (z1p rfl _ _ (s+2) 23 _ (0,0) _ _ rfl (Has.row H5 _) Tryz.underlying23 (z03 lY)) rfl ⟨rfl,FN.out⟩
structure TRNS (w0:World) (B m bi bj:Nat) (lv0 nd0:List Int) (n K:Nat) (s:List Int × List Int) (W:World):Prop where
  left:∃ i j,i≤n∧j≤K∧s.1=lv0.drop (32*i)∧s.2=nd0.drop (32*j)∧Has W bi #[.int .i64 ((i:Int) - 1)] 3∧Has W bj #[.int .i64 ((j:Int) - 1)] 3
  rest:∀ q,q<B→q≠bi→q≠bj→W.heap[q]?=w0.heap[q]?
  below:Below m w0 W
theorem TRNS.still {w0:World} {B m bi bj n K:Nat} {lv0 nd0:List Int} {s:List Int × List Int} {W W':World} (h:TRNS w0 B m bi bj lv0 nd0 n K s W) (hm:m≤B) (hi:bi<B) (hj:bj<B) (hb:Below B W W'):TRNS w0 B m bi bj lv0 nd0 n K s W':=by
  obtain ⟨i,j,h1,h2,h3,h4,h5,h6⟩:=h.left
  exact ⟨⟨i,j,h1,h2,h3,h4,(hb.block bi hi).trans h5,(hb.block bj hj).trans h6⟩,fun q hq a b=>(hb.block q hq).trans (h.rest q hq a b),h.below.trans (hb.mono hm)⟩
theorem TRNS.flat {w0:World} {B m bi bj n K k:Nat} {lv0 nd0 l:List Int} {s:List Int × List Int} {W:World} {a:Option Addr} (h:TRNS w0 B m bi bj lv0 nd0 n K s W) (hF:Flat w0 a k l) (ha:∀ x,a=some x→x.block<m) (hmi:m≤bi) (hmj:m≤bj) (hB:m≤B):Flat W a k l:=by
  refine ⟨hF.1,fun h0=>?_,hF.2.2⟩
  obtain ⟨b,o,e,hlt,hc⟩:=hF.2.1 h0
  have hb:=ha _ e
  have hb:b<m:=hb
  exact ⟨b,o,e,Nat.lt_of_lt_of_le hlt h.below.size,fun j hj=>(World.cell?_of_block (w:=w0) (by exact h.rest b (by omega) (by omega) (by omega))).trans (hc j hj)⟩
theorem zdz (d:Int) (w0:World) (B m bi bli bj bnj bw:Nat) (hB:w0.heap.size=B) (al:Option Addr) (n cl:Nat) (lv0:List Int) (an:Option Addr) (K cn:Nat) (nd0:List Int) (hn:n<2 ^ 40) (hK:K<2 ^ 40)
    (hla:∀ x,al=some x→x.block<m) (hna:∀ x,an=some x→x.block<m) (hFl:Flat w0 al n lv0) (hFn:Flat w0 an K nd0) (hL:Has w0 bli #[.slice al n cl] 25) (hN:Has w0 bnj #[.slice an K cn] 25) (hD:Has w0 bw #[.int .i64 d] 3)
    (hX:∀ W,Below m w0 W→HX.Tabled W) (ne:m≤bi∧m≤bj∧bi<B∧bj<B∧bli<B∧bnj<B∧bw<B∧bli≠bi∧bli≠bj∧bnj≠bi∧bnj≠bj∧bw≠bi∧bw≠bj∧bi≠bj):
    CCON (CLH1 d) IsH (fun i j s=>HSS i s.1∧HSS j s.2) (TRNS w0 B m bi bj lv0 nd0 n K) B m bi bli bj bnj bw:=by
  obtain ⟨n1,n2,n3,n4,n5,n6,n7,n8,n9,n10,n11,n12,n13,n14⟩:=ne
  refine ⟨fun a h=>h.1,zdr d,fun s W W' h hb=>h.still (by omega) n3 n4 hb,fun s W h=>by have:=h.below.size;omega,by omega,?_,?_,?_⟩
  · intro i j s W h hO
    obtain ⟨i0,j0,h1,h2,h3,h4,h5,h6⟩:=h.left
    have hl:=hO.1.1
    rw [h3,List.length_drop,hFl.1] at hl
    have hi:i0<n:=by omega
    obtain ⟨b,o,rfl,hlt,_⟩:=hFl.2.1 (by omega)
    have hbm:b<m:=hla _ rfl
    have hF:=h.flat hFl hla n1 n2 (by omega)
    have ct:=z8f bi bli b o n cl i0 lv0 W h5 ((h.rest bli n5 n8 n9).trans hL) hF hi hn (by omega) n8
    refine ct.mono ?_
    rintro e w' ⟨rfl,g1,g2⟩
    refine ⟨?_,⟨⟨i0+1,j0,by omega,h2,?_,h4,?_,(g2.1 bj (by have:=h.below.size;omega) (by omega)).trans h6⟩,fun q hq a b=>(g2.1 q (by have:=h.below.size;omega) a).trans (h.rest q hq a b),h.below.trans (g2.2.mono n1)⟩,⟨fun q hq hl=>g2.1 q hl (by omega),g2.2.mono n1⟩⟩
    · show _=Ending.returned (.agg (z00 (HSH s.1 0)).toArray)
      rw [h3,z8e]
    · show s.1.drop 32=_
      rw [h3,List.drop_drop]
      congr 1
    · rw [show (((i0+1:Nat):Int) - 1)=(i0:Int) by omega]
      exact g1
  · intro i j s W h hO
    obtain ⟨i0,j0,h1,h2,h3,h4,h5,h6⟩:=h.left
    have hl:=hO.2.1
    rw [h4,List.length_drop,hFn.1] at hl
    have hj:j0<K:=by omega
    obtain ⟨b,o,rfl,hlt,_⟩:=hFn.2.1 (by omega)
    have hbm:b<m:=hna _ rfl
    have hF:=h.flat hFn hna n1 n2 (by omega)
    have ct:=z8f bj bnj b o K cn j0 nd0 W h6 ((h.rest bnj n6 n10 n11).trans hN) hF hj hK (by omega) n11
    refine ct.mono ?_
    rintro e w' ⟨rfl,g1,g2⟩
    refine ⟨?_,⟨⟨i0,j0+1,h1,by omega,h3,?_,(g2.1 bi (by have:=h.below.size;omega) (by omega)).trans h5,?_⟩,fun q hq a b=>(g2.1 q (by have:=h.below.size;omega) b).trans (h.rest q hq a b),h.below.trans (g2.2.mono n2)⟩,⟨fun q hq hl=>g2.1 q hl (by omega),g2.2.mono n2⟩⟩
    · show _=Ending.returned (.agg (z00 (HSH s.2 0)).toArray)
      rw [h4,z8e]
    · show s.2.drop 32=_
      rw [h4,List.drop_drop]
      congr 1
    · rw [show (((j0+1:Nat):Int) - 1)=(j0:Int) by omega]
      exact g1
  · intro s a b W h ha hb
    refine (zdy d bw a b ha hb W ((h.rest bw n7 n12 n13).trans hD) (hX W h.below)).mono ?_
    rintro e w' ⟨rfl,g⟩
    have hs:=h.below.size
    exact ⟨rfl,h.still (by omega) n3 n4 (g.mono (by omega)),KPB.of_below g (by omega)⟩
set_option maxHeartbeats 8000000 in
theorem zca (d:Int) (F T N:Nat) (hN:N≤4611686018427387904) (hTN:T≤N) (al:Option Addr) (nl cl:Nat) (lv:List Int) (an:Option Addr) (K cn:Nat) (nd:List Int) (w:World) (hnl:nl=T - F) (hK:K=(SPP F T N).length) (hn:nl<2 ^ 40)
    (hla:∀ x,al=some x→x.block<w.heap.size) (hFl:Flat w al nl lv) (hna:∀ x,an=some x→x.block<w.heap.size) (hFn:Flat w an K nd) (hT:Tabled w) (hX:HX.Tabled w) (h0:0<w.heap.size):
    Calls Tryz.prog 42 #[.int .i64 d,.slice al nl cl,.agg (RBOX N F T an K cn)] w fun e w'=>∃ ap cp,e=.returned (.slice ap (PC N) cp)∧w'.ownsRow w.heap.size 23 32 (.slice ap (PC N) cp) (PC N) (z00 (MUPS d (TPS N) (SEG F T) lv nd))∧Below w.heap.size w w':=by
  have hmf:∀ (fn:Fn) (first cap:Array Value) (w:World),(Instr.makeFunc fn first cap).run Tryz.prog w=.ok (.func fn first cap) w:=fun _ _ _ _=>rfl
  have hR:(RBOX N F T an K cn)=#[.int .u64 (N:Int),.int .u64 (F:Int),.int .u64 (T:Int),.slice an K cn]:=rfl
  obtain ⟨s,hs⟩:∃ s,w.heap.size=s:=⟨_,rfl⟩
  obtain ⟨w1,e1⟩:∃ w1,w.alloc (.cells #[.int .i64 d] 3)=w1:=⟨_,rfl⟩
  obtain ⟨w2,e2⟩:∃ w2,w1.alloc (.cells #[.int .u64 (N:Int),.int .u64 (F:Int),.int .u64 (T:Int),.slice an K cn] 28)=w2:=⟨_,rfl⟩
  have s1:w1.heap.size=s+1:=by rw [← e1,← hs];simp
  have s2:w2.heap.size=s+2:=by rw [← e2];simp [s1]
  have hb2:Below w.heap.size w w2:=by rw [← e2,← e1];exact ((Below.refl _ _).alloc (Nat.le_refl _) _).alloc (by simp) _
  have hD:Has w2 s #[.int .i64 d] 3:=by rw [← e2,← e1,← hs];exact (Has.new _ _ _).alloc _
  have hP:Has w2 (s+1) #[.int .u64 (N:Int),.int .u64 (F:Int),.int .u64 (T:Int),.slice an K cn] 28:=by rw [← e2,← s1];exact Has.new _ _ _
  have few:=z2K (F:=F) hN hTN
  have HG:Aside (Below s w w2∧Has w2 s #[.int .i64 d] 3∧Has w2 (s+1) #[.int .u64 (N:Int),.int .u64 (F:Int),.int .u64 (T:Int),.slice an K cn] 28∧w2.heap.size=s+2∧w.heap.size=s):=⟨by rw [← hs];exact hb2,hD,hP,s2,hs⟩
  have HA:Aside (N≤4611686018427387904∧T≤N∧nl=T - F∧K=(SPP F T N).length∧nl<2 ^ 40∧K<2 ^ 40∧(∀ x,al=some x→x.block<s)∧Flat w al nl lv∧(∀ x,an=some x→x.block<s)∧Flat w an K nd∧Tabled w∧HX.Tabled w∧0<s):=⟨hN,hTN,hnl,hK,hn,by omega,by rw [← hs];exact hla,hFl,by rw [← hs];exact hna,hFn,hT,hX,by omega⟩
  rw [hs]
  clear hN hTN hnl hK hn hla hFl hna hFn hT hX h0 few hb2 hD hP
  go_enter Tryz.func42,Tryz.ntmps42
  rw [hR]
  go_upto_region 2 with fail
  clear e1 e2 s1 s2 hs hR hmf
  refine zeC _ (s+1) s (s+3) (s+2) (s+5) (s+4) F T N nl cl K cn (PC N) al an (fun W=>Below w2.heap.size w2 W∧W.heap.size=s+2) (fun W=>Below w2.heap.size w2 W∧W.heap.size=s+4∧Has W (s+2) #[.slice al nl cl] 25∧Has W (s+3) #[.int .i64 (-1)] 3) (fun W=>Below w2.heap.size w2 W∧W.heap.size=s+6∧Has W (s+2) #[.slice al nl cl] 25∧Has W (s+3) #[.int .i64 (-1)] 3∧Has W (s+4) #[.slice an K cn] 25∧Has W (s+5) #[.int .i64 (-1)] 3) (fun ap cp W=>W.ownsRow (s+6) 23 32 (.slice ap (PC N) cp) (PC N) (z00 (MUPS d (TPS N) (SEG F T) lv nd))∧Below s w2 W∧Has W (s+1) #[.int .u64 (N:Int),.int .u64 (F:Int),.int .u64 (T:Int),.slice an K cn] 28) ?_ ?_ ?_ ?_ ?_ ?_ ?_ ?_ ?_ ?_
  · exact ⟨(Below.refl _ w2).drew,HG.out.2.2.2.1⟩
  · intro W h
    have k:=HG.out.2.2.1.keep h.1
    exact ⟨k.cell 0,k.cell 1,k.cell 2,k.cell 3⟩
  · intro W h
    have k:=HG.out.2.2.1.keep h.1
    exact ⟨k.cell 0,k.cell 1,k.cell 2,k.cell 3⟩
  · intro W h
    have k:=HG.out.2.2.1.keep h.1
    exact ⟨k.cell 0,k.cell 1,k.cell 2,k.cell 3⟩
  · intro a c W h
    have k:=h.2.2
    exact ⟨k.cell 0,k.cell 1,k.cell 2,k.cell 3⟩
  · rintro W ⟨h1,h2⟩
    refine (z6Q al nl cl W).mono ?_
    rintro e w' ⟨rfl,g1,g2,g3,g4⟩
    rw [h2] at g1 g2 g4 ⊢
    rw [h2] at g3
    exact ⟨rfl,h1.trans (by rw [HG.out.2.2.2.1];exact g3),g4,g1,g2⟩
  · rintro W ⟨h1,h2,h3,h4⟩
    refine (z6Q an K cn W).mono ?_
    rintro e w' ⟨rfl,g1,g2,g3,g4⟩
    have k3:=h3.keep g3
    have k4:=h4.keep g3
    rw [h2] at g1 g2 g4 ⊢
    rw [h2] at g3
    exact ⟨rfl,h1.trans (g3.mono (by rw [HG.out.2.2.2.1];omega)),g4,k3,k4,g1,g2⟩
  · rintro W ⟨h1,h2,h3,h4,h5,h6⟩
    obtain ⟨p1,p2,p3,p4,p5,p6,p7,p8,p9,p10,p11,p12,p13⟩:=HA.out
    obtain ⟨q1,q2,q3,q4,q5⟩:=HG.out
    have hbW:Below s w W:=q1.trans (h1.mono (by omega))
    have hbW':Below w.heap.size w W:=by rw [q5];exact hbW
    have con:=zdz d W (s+6) s (s+3) (s+2) (s+5) (s+4) s h2 al nl cl lv an K cn nd p5 p6 p7 p9 (p8.below hbW') (p10.below hbW') h3 h5 (q2.keep h1) (fun W' hb=>p12.below (hbW'.trans (by rw [q5];exact hb))) (by omega)
    have cc:=zc9 con F T N p1 (lv,nd) nl K W h2 ⟨⟨0,0,Nat.zero_le _,Nat.zero_le _,rfl,rfl,h4,h6⟩,fun q _ _ _=>rfl,Below.refl _ _⟩ ⟨⟨p8.1,p8.2.2⟩,⟨p10.1,p10.2.2⟩⟩ (by rw [z9M p1 p2,p3];exact Nat.le_refl _) (by rw [z9N p1 p2,p4];exact Nat.le_refl _) (p11.below (by omega) hbW') (by omega)
    refine cc.mono ?_
    rintro e w' ⟨ap,cp,rfl,g1,g2,g3⟩
    rw [z8d d p1 p2] at g1
    exact ⟨ap,cp,rfl,g1,(h1.mono (by omega)).trans g3,(g2.rest (s+1) (by omega) (by omega) (by omega)).trans (q3.keep h1)⟩
  · exact fun _ _ _ _ _ h=>h
  · rintro ap cp w5 ⟨g1,g2,_⟩
    have FN:Aside (w5.ownsRow s 23 32 (.slice ap (PC N) cp) (PC N) (z00 (MUPS d (TPS N) (SEG F T) lv nd))∧Below s w w5):=⟨z0f g1 (by omega),HG.out.1.trans g2⟩
    clear g1 g2 HA HG
    go_wp2_with fail
    go_ret
    exact ⟨ap,cp,rfl,FN.out.1,FN.out.2⟩
end Go.Proofs.YthdpkaiieomdoaaGreatDoor

namespace Go.Proofs.YthdpkaiieomdoaaGreatDoor
open Go.RowKit
set_option maxRecDepth 100000
def SCE (F T N K nl:Nat):Int:=if SWA N F T K=0 then (if nl=T - F then 0 else 70) else SWA N F T K
def SCLA (d:Int) (F T N K nl:Nat) (lv nd:List Int):Int × Nat × List Int:=if SCE F T N K nl=0 then (0,PC N,MUPS d (TPS N) (SEG F T) lv nd) else (SCE F T N K nl,0,[])
theorem z1Y (F T N K nl:Nat):(SWA N F T K≠0∧SCE F T N K nl=SWA N F T K)∨(SWA N F T K=0∧nl≠T - F∧SCE F T N K nl=70)∨(SWA N F T K=0∧nl=T - F∧SCE F T N K nl=0):=by
  unfold SCE
  by_cases h:SWA N F T K=0
  · by_cases h':nl=T - F
    · exact .inr (.inr ⟨h,h',by rw [if_pos h,if_pos h']⟩)
    · exact .inr (.inl ⟨h,h',by rw [if_pos h,if_neg h']⟩)
  · exact .inl ⟨h,if_neg h⟩
theorem z6S (w:World) (B:Nat):w.ownsRow B 23 32 (.slice none 0 0) 0 (z00 []):=⟨rfl,.inl ⟨rfl,rfl⟩⟩
set_option maxHeartbeats 4000000 in
theorem z4u (d:Int) (F T N:Nat) (hTT:T<2 ^ 64) (an:Option Addr) (K cn:Nat) (al:Option Addr) (nl cl:Nat) (lv nd:List Int) (w:World) (hn:nl<2 ^ 40)
    (hna:∀ x,an=some x→x.block<w.heap.size) (hFn:Flat w an K nd) (hla:∀ x,al=some x→x.block<w.heap.size) (hFl:Flat w al nl lv) (hT:Tabled w) (hX:HX.Tabled w) (h0:0<w.heap.size):
    Calls Tryz.prog 14 #[.int .i64 d,.slice al nl cl,.agg (RBOX N F T an K cn)] w (ANSC w (SCLA d F T N K nl lv nd)):=by
  obtain ⟨w1,e1⟩:∃ w1,w.alloc (.cells (RBOX N F T an K cn) 28)=w1:=⟨_,rfl⟩
  have hb1:Below w.heap.size w w1:=by rw [← e1];exact (Below.refl _ _).alloc (Nat.le_refl _) _
  have hH:Has w1 w.heap.size (RBOX N F T an K cn) 28:=by rw [← e1];exact Has.new w _ _
  have cw:=z6R N F T an K cn w1 (hT.below h0 hb1) (by have:=hb1.size;omega)
  have hM:(RBOX N F T an K cn)=#[.int .u64 (N:Int),.int .u64 (F:Int),.int .u64 (T:Int),.slice an K cn]:=rfl
  have CC:Aside (∀ W,Below w1.heap.size w1 W→Below w.heap.size w W∧W.cell? ⟨w.heap.size,0,none⟩=some (.int .u64 (N:Int))∧W.cell? ⟨w.heap.size,1,none⟩=some (.int .u64 (F:Int))∧W.cell? ⟨w.heap.size,2,none⟩=some (.int .u64 (T:Int))∧W.cell? ⟨w.heap.size,3,none⟩=some (.slice an K cn)):=fun W hb=>⟨hb1.trans (hb.mono hb1.size),(hH.keep hb).cell 0,(hH.keep hb).cell 1,(hH.keep hb).cell 2,(hH.keep hb).cell 3⟩
  have CP:Aside (SWA N F T K=0→nl=T - F→∀ W,Below w.heap.size w W→Calls Tryz.prog 42 #[.int .i64 d,.slice al nl cl,.agg #[.int .u64 (N:Int),.int .u64 (F:Int),.int .u64 (T:Int),.slice an K cn]] W fun e w'=>∃ ap cp,e=.returned (.slice ap (PC N) cp)∧w'.ownsRow W.heap.size 23 32 (.slice ap (PC N) cp) (PC N) (z00 (MUPS d (TPS N) (SEG F T) lv nd))∧Below W.heap.size W w'):=fun h hl W hb=>by
    obtain ⟨q1,q2,q3,q4⟩:=z2s h
    exact zca d F T N q1 q3 al nl cl lv an K cn nd W hl q4 hn (fun x e=>Nat.lt_of_lt_of_le (hla x e) hb.size) (hFl.below hb) (fun x e=>Nat.lt_of_lt_of_le (hna x e) hb.size) (hFn.below hb) (hT.below h0 hb) (hX.below hb) (Nat.lt_of_lt_of_le h0 hb.size)
  have gp:SWA N F T K=0→IntKind.u64.wrap ((T:Int) - (F:Int))=((T - F:Nat):Int):=fun h=>z1g (z2s h).2.1 hTT
  have ew:IntKind.u64.wrap (nl:Int)=(nl:Int):=by rw [IntKind.wrap_u64];omega
  obtain ⟨x0,x1,x2,x3⟩:=(CC.out w1 (Below.refl _ _)).2
  have HR:Aside (SCLA d F T N K nl lv nd=if SCE F T N K nl=0 then (0,PC N,MUPS d (TPS N) (SEG F T) lv nd) else (SCE F T N K nl,0,[])):=rfl
  rw [hM] at e1 cw
  have hcs:=z1Y F T N K nl
  generalize SCLA d F T N K nl lv nd=A at *
  generalize MUPS d (TPS N) (SEG F T) lv nd=U at *
  generalize SCE F T N K nl=C at *
  generalize SWA N F T K=E at *
  generalize PC N=pn at *
  clear hb1 hH hT h0 hX hFn hFl hna hla hn hTT
  rcases hcs with ⟨hE,rfl⟩ | ⟨rfl,hl,rfl⟩ | ⟨rfl,hl,rfl⟩
  · have hne:(C == 0)=false:=beq_eq_false_iff_ne.2 hE
    have HA:Aside (A=(C,0,[])):=HR.out.trans (if_neg hE)
    clear HR CP gp hE
    go_enter Tryz.func14,Tryz.ntmps14
    rw [hM]
    go_wp2_with fail
    refine cw.mono ?_
    rintro e w2 ⟨rfl,hb⟩
    have FN:Aside (Below w.heap.size w w2):=(CC.out w2 hb).1
    clear cw x0 x1 x2 x3 e1 hb CC
    go_wp2_with fail
    go_ret2
    rw [HA.out]
    exact ⟨none,0,rfl,z6S _ _,FN.out⟩
  · have hg:=gp rfl
    have hne:((nl:Int) == ((T - F:Nat):Int))=false:=beq_eq_false_iff_ne.2 (by omega)
    have HA:Aside (A=(70,0,[])):=HR.out.trans (if_neg (by decide))
    clear HR CP gp hl
    generalize T - F=D at *
    go_enter Tryz.func14,Tryz.ntmps14
    rw [hM]
    go_wp2_with fail
    refine cw.mono ?_
    rintro e w2 ⟨rfl,hb⟩
    obtain ⟨hbw,y0,y1,y2,y3⟩:=CC.out w2 hb
    have FN:Aside (Below w.heap.size w w2):=hbw
    clear cw x0 x1 x2 x3 e1 hb hbw CC
    go_wp2_with fail
    go_ret2
    rw [HA.out]
    exact ⟨none,0,rfl,z6S _ _,FN.out⟩
  · have hg:=gp rfl
    have CQ:=CP.out rfl hl
    have HA:Aside (A=(0,pn,U)):=HR.out.trans (if_pos rfl)
    have HC:Aside _:=CQ
    clear HR CP gp CQ
    subst hl
    generalize T - F=D at *
    go_enter Tryz.func14,Tryz.ntmps14
    rw [hM]
    go_wp2_with fail
    refine cw.mono ?_
    rintro e w2 ⟨rfl,hb⟩
    obtain ⟨hbw,y0,y1,y2,y3⟩:=CC.out w2 hb
    have c2:=HC.out w2 hbw
    have FN:Aside (Below w.heap.size w w2):=hbw
    clear cw x0 x1 x2 x3 e1 hb hbw CC HC
    go_wp2_with fail
    refine c2.mono ?_
    rintro e w3 ⟨ap,cp,rfl,hown,hb3⟩
    have R:Aside (w3.ownsRow w.heap.size 23 32 (.slice ap pn cp) pn (z00 U)∧Below w.heap.size w w3):=⟨z0f hown FN.out.size,FN.out.trans (hb3.mono FN.out.size)⟩
    clear c2 hown hb3 FN
    go_wp2_with fail
    go_ret2
    rw [HA.out]
    exact ⟨ap,cp,rfl,R.out.1,R.out.2⟩
end Go.Proofs.YthdpkaiieomdoaaGreatDoor

namespace Go.Proofs.YthdpkaiieomdoaaGreatDoor
open Go.RowKit
set_option maxRecDepth 100000
structure RD20 (w0 w:World) (rb:Nat) (E:Int) (t:List Int):Prop where
  rd:∃ a c,Has w rb #[.slice a t.length c,.int .i64 E] 108∧SRC w0 a c t
  bel:Below w0.heap.size w0 w
  lb:w0.heap.size≤rb
theorem RD20.lt {w0 w:World} {rb:Nat} {E:Int} {t:List Int} (h:RD20 w0 w rb E t):rb<w.heap.size:=by
  obtain ⟨_,_,h1,_⟩:=h.rd
  exact h1.lt
theorem RD20.keep {w0 w w':World} {rb:Nat} {E:Int} {t:List Int} (h:RD20 w0 w rb E t) (hb:Below w.heap.size w w'):RD20 w0 w' rb E t:=by
  obtain ⟨a,c,h1,h2⟩:=h.rd
  exact ⟨⟨a,c,h1.keep hb,h2⟩,h.bel.trans (hb.mono h.bel.size),h.lb⟩
theorem RD20.other {w0 w w':World} {rb pb:Nat} {E:Int} {t:List Int} (h:RD20 w0 w rb E t) (hs:STAY w w' pb) (hne:rb≠pb) (hp:w0.heap.size≤pb):RD20 w0 w' rb E t:=by
  obtain ⟨a,c,h1,h2⟩:=h.rd
  exact ⟨⟨a,c,hs.has h1 hne,h2⟩,h.bel.trans (hs.bl.mono hp),h.lb⟩
theorem RD20.moved {w0 w:World} {rb b off c k:Nat} {E:Int} {t:List Int} (h:RD20 w0 w rb E t) (hh:Has w rb #[.slice (some ⟨b,off,none⟩) t.length c,.int .i64 E] 108) (hs:SRC w0 (some ⟨b,off,none⟩) c t) (hk:k≤t.length):RD20 w0 (w.setCell ⟨rb,0,none⟩ (.slice (REST b off c k) (t.length - k) (c - k))) rb E (t.drop k):=by
  refine ⟨⟨_,_,?_,hs.drop k hk⟩,h.bel.setCell (p:=⟨rb,0,none⟩) h.lb _,h.lb⟩
  rw [List.length_drop]
  exact hh.set 0 _
theorem RD20.wrong {w0 w:World} {rb:Nat} {E:Int} {t:List Int} (h:RD20 w0 w rb E t) (E':Int):RD20 w0 (w.setCell ⟨rb,1,none⟩ (.int .i64 E')) rb E' t:=by
  obtain ⟨a,c,h1,h2⟩:=h.rd
  exact ⟨⟨a,c,h1.set 1 _,h2⟩,h.bel.setCell (p:=⟨rb,1,none⟩) h.lb _,h.lb⟩
def K20 (l:List Int):Int × List Int:=if l.length=0 then (11,l) else if l.getD 0 0≠83 then (14,l) else (0,l.drop 1)
def RDS (w0 w:World) (rb:Nat) (E:Int) (t:List Int) (w':World):Prop:=RD20 w0 w' rb E t∧STAY w w' rb
theorem zdA {w0 w:World} {rb:Nat} {l:List Int} (R:RD20 w0 w rb 0 l):Calls Tryz.prog 100 #[.pointer (some ⟨rb,0,none⟩)] w fun e w'=>e=.returned (.tuple #[])∧RDS w0 w rb (K20 l).1 (K20 l).2 w':=by
  obtain ⟨a,c,h1,h2⟩:=R.rd
  have x0:w.cell? ⟨rb,0,none⟩=some (.slice a l.length c):=h1.cell 0
  have x1:w.cell? ⟨rb,1,none⟩=some (.int .i64 0):=h1.cell 1
  have z0:w.frozen? ⟨rb,0,none⟩=false:=h1.frozen 0
  have z1:w.frozen? ⟨rb,1,none⟩=false:=h1.frozen 1
  by_cases hl:l.length=0
  · have hK:K20 l=(11,l):=if_pos hl
    have FN:Aside (RDS w0 w rb 11 l (w.setCell ⟨rb,1,none⟩ (.int .i64 11))):=⟨R.wrong 11,STAY.set _ _ _ _⟩
    rw [hK]
    rw [hl] at x0
    clear R h1 h2 hK hl
    go_enter Tryz.func100,Tryz.ntmps100
    go_wp2
    exact bodyPost_ret (v:=.tuple #[]) (by simp [results,Tryz.f100]) rfl ⟨rfl,FN.out⟩
  · obtain ⟨b,off,rfl,hb,hc⟩:=h2.addr (by omega)
    have y0:w.cell? ⟨b,off,none⟩=some (.int .u8 (l.getD 0 0)):=(R.bel.cell (p:=⟨b,off,none⟩) hb).trans (by have:=hc 0 (by omega);rw [Nat.add_zero] at this;exact this)
    have hn0:¬ (l.length:Int)=0:=by omega
    have hn1:(0:Int)<(l.length:Int):=by omega
    have hn2:0<l.length:=by omega
    have hcap:l.length≤c:=h2.2.1
    by_cases hx:l.getD 0 0=83
    · have hK:K20 l=(0,l.drop 1):=by unfold K20;rw [if_neg hl,if_neg (fun h=>h hx)]
      rw [hK]
      rw [hx] at y0
      have FN:Aside (RDS w0 w rb 0 (l.drop 1) (w.setCell ⟨rb,0,none⟩ (.slice (REST b off c 1) (l.length - 1) (c - 1)))):=⟨R.moved h1 h2 (by omega),STAY.set _ _ _ _⟩
      obtain ⟨a',ha'⟩:∃ a',REST b off c 1=a':=⟨_,rfl⟩
      rw [ha'] at FN
      obtain ⟨n,hn⟩:∃ n,l.length=n:=⟨_,rfl⟩
      rw [hn] at FN x0 hn0 hn1 hn2 hcap
      have k1:(1:Int)≤(n:Int):=by omega
      have k2:(n:Int)≤(c:Int):=by omega
      by_cases h1:c=1
      · have HA:Aside (some ⟨b,off,none⟩=a'):=by
          rw [← ha']
          simp [REST,h1,Aside]
        obtain rfl:n=1:=by omega
        subst h1
        clear ha' hn hx hl R h2 hK
        go_enter Tryz.func100,Tryz.ntmps100
        go_wp2
        have F2:=FN.out
        rw [← HA.out] at F2
        exact bodyPost_end (v:=.tuple #[]) (by simp [results,Tryz.f100]) rfl ⟨rfl,F2⟩
      · have HA:Aside (some ⟨b,off+1,none⟩=a'):=by
          rw [← ha']
          simp [REST,h1,Aside]
        have hc1:¬ c - 1=0:=by omega
        clear ha' hn hx hl R h2 hK
        go_enter Tryz.func100,Tryz.ntmps100
        go_wp2
        have F2:=FN.out
        rw [← HA.out] at F2
        exact bodyPost_end (v:=.tuple #[]) (by simp [results,Tryz.f100]) rfl ⟨rfl,F2⟩
    · have hK:K20 l=(14,l):=by unfold K20;rw [if_neg hl,if_pos hx]
      rw [hK]
      have FN:Aside (RDS w0 w rb 14 l (w.setCell ⟨rb,1,none⟩ (.int .i64 14))):=⟨R.wrong 14,STAY.set _ _ _ _⟩
      generalize l.getD 0 0=x at *
      generalize l.length=n at *
      clear R h1 h2 hK hl hb hc
      go_enter Tryz.func100,Tryz.ntmps100
      go_wp2
      exact bodyPost_ret (v:=.tuple #[]) (by simp [results,Tryz.f100]) rfl ⟨rfl,FN.out⟩
def SNE (t:List Int) (most:Nat) (bey:Int):Int:=if (LNG t).2.2=0 then (if (most:Int)<(LNG t).1 then bey else 0) else (LNG t).2.2
def z1K (E:Int) (t:List Int) (most:Nat) (bey:Int) (x:Nat) (E':Int) (t':List Int):Prop:=
  x≤most∧((E≠0∧x=0∧E'=E)∨(E=0∧SNE t most bey≠0∧x=0∧E'=SNE t most bey)∨(E=0∧SNE t most bey=0∧(x:Int)=(LNG t).1∧E'=0∧t'=t.drop (LNG t).2.1.toNat))
set_option maxHeartbeats 1000000 in
theorem z3T {w0 w:World} {rb:Nat} {E:Int} {t:List Int} (R:RD20 w0 w rb E t) (most:Nat) (bey:Int) (hbey:bey≠0):Calls Tryz.prog 101 #[.pointer (some ⟨rb,0,none⟩),.int .u64 (most:Int),.int .i64 bey] w fun e w'=>∃ (x:Nat) (E':Int) (t':List Int),e=.returned (.int .u64 (x:Int))∧z1K E t most bey x E' t'∧RDS w0 w rb E' t' w':=by
  obtain ⟨a,c,h1,h2⟩:=R.rd
  have x0:w.cell? ⟨rb,0,none⟩=some (.slice a t.length c):=h1.cell 0
  have x1:w.cell? ⟨rb,1,none⟩=some (.int .i64 E):=h1.cell 1
  have z0:w.frozen? ⟨rb,0,none⟩=false:=h1.frozen 0
  have z1:w.frozen? ⟨rb,1,none⟩=false:=h1.frozen 1
  by_cases hE:E=0
  · subst hE
    have cl:=zew a t.length c t w (h2.1.below R.bel) h2.2.1 (by have:=h2.2.2;omega)
    rw [show LG t t.length 10 0 0=LNG t from rfl] at cl
    have hS:SNE t most bey=if (LNG t).2.2=0 then (if (most:Int)<(LNG t).1 then bey else 0) else (LNG t).2.2:=rfl
    by_cases h3:(LNG t).2.2=0
    · obtain ⟨Z,m,q1,q2,q3,q4,q5⟩:=z34 h2.1.2.2 h3
      rw [q4] at cl hS
      rw [if_pos rfl] at hS
      by_cases hZ:(most:Int)<(Z:Int)
      · rw [if_pos hZ] at hS
        have FN:Aside (∃ (x:Nat) (E':Int) (t':List Int),((0:Int)=(x:Int))∧z1K 0 t most bey x E' t'∧RDS w0 w rb E' t' (w.setCell ⟨rb,1,none⟩ (.int .i64 bey))):=⟨0,bey,t,rfl,⟨Nat.zero_le _,.inr (.inl ⟨rfl,by rw [hS];exact hbey,rfl,hS.symm⟩)⟩,R.wrong bey,STAY.set _ _ _ _⟩
        have hb':(bey != 0)=true:=by simp [hbey]
        clear R h1 h2 q1 q2 q3 q4 q5 h3 hS hbey
        go_enter Tryz.func101,Tryz.ntmps101
        go_wp2_with fail
        refine cl.mono ?_
        rintro e w' ⟨rfl,rfl⟩
        clear cl
        go_wp2
        go_ret
        obtain ⟨x,E',t',g1,g2,g3⟩:=FN.out
        exact ⟨x,E',t',by rw [← g1];rfl,g2,g3⟩
      · rw [if_neg hZ] at hS
        obtain ⟨b,off,rfl,hb,hcs⟩:=h2.addr (by omega)
        have FN:Aside (∃ (x:Nat) (E':Int) (t':List Int),((Z:Int)=(x:Int))∧z1K 0 t most bey x E' t'∧RDS w0 w rb E' t' (w.setCell ⟨rb,0,none⟩ (.slice (REST b off c m) (t.length - m) (c - m)))):=⟨Z,0,t.drop m,rfl,⟨by omega,.inr (.inr ⟨rfl,hS,by rw [q4],rfl,by rw [q4];rfl⟩)⟩,R.moved h1 h2 q3,STAY.set _ _ _ _⟩
        have hk:m≤t.length:=q3
        have hc:t.length≤c:=h2.2.1
        generalize t.length=n at *
        clear R h1 h2 q1 q2 q3 q4 q5 h3 hS hbey hb hcs
        go_enter Tryz.func101,Tryz.ntmps101
        go_wp2_with fail
        refine cl.mono ?_
        rintro e w' ⟨rfl,rfl⟩
        clear cl
        go_wp2_with (first
          | (refine z0M _ rfl (.tmp 42) (.tmp 43) rfl b off n c m rfl rfl hk hc ?_))
        go_ret
        obtain ⟨x,E',t',g1,g2,g3⟩:=FN.out
        exact ⟨x,E',t',by rw [← g1];rfl,g2,g3⟩
    · rw [if_neg h3] at hS
      have FN:Aside (∃ (x:Nat) (E':Int) (t':List Int),((0:Int)=(x:Int))∧z1K 0 t most bey x E' t'∧RDS w0 w rb E' t' (w.setCell ⟨rb,1,none⟩ (.int .i64 (LNG t).2.2))):=⟨0,(LNG t).2.2,t,rfl,⟨Nat.zero_le _,.inr (.inl ⟨rfl,by rw [hS];exact h3,rfl,hS.symm⟩)⟩,R.wrong _,STAY.set _ _ _ _⟩
      generalize (LNG t).2.2=r3 at *
      generalize (LNG t).2.1=r2 at *
      generalize (LNG t).1=r1 at *
      have hb':(r3 != 0)=true:=by simp [h3]
      have hb2:(r3 == 0)=false:=beq_eq_false_iff_ne.2 h3
      clear R h1 h2 hS hbey
      go_enter Tryz.func101,Tryz.ntmps101
      go_wp2_with fail
      refine cl.mono ?_
      rintro e w' ⟨rfl,rfl⟩
      clear cl
      go_wp2
      go_ret
      obtain ⟨x,E',t',g1,g2,g3⟩:=FN.out
      exact ⟨x,E',t',by rw [← g1];rfl,g2,g3⟩
  · have hb':(E != 0)=true:=by simp [hE]
    have FN:Aside (z1K E t most bey 0 E t∧RDS w0 w rb E t w):=⟨⟨Nat.zero_le _,.inl ⟨hE,rfl,rfl⟩⟩,R,STAY.refl _ _⟩
    clear R h1 h2
    go_enter Tryz.func101,Tryz.ntmps101
    go_wp2
    go_ret
    exact ⟨0,E,t,rfl,FN.out.1,FN.out.2⟩
end Go.Proofs.YthdpkaiieomdoaaGreatDoor

namespace Go.Proofs.YthdpkaiieomdoaaGreatDoor
open Go.RowKit
set_option maxRecDepth 100000
end Go.Proofs.YthdpkaiieomdoaaGreatDoor

namespace Go.Proofs.YthdpkaiieomdoaaGreatDoor
open Go.RowKit
set_option maxRecDepth 100000
end Go.Proofs.YthdpkaiieomdoaaGreatDoor

namespace Go.Proofs.YthdpkaiieomdoaaGreatDoor
open Go.RowKit
set_option maxRecDepth 100000
def DECD (w:World) (D:DANS) (e:Ending) (w':World):Prop:=
  ∃ v,e=.returned (.tuple #[v,.int .i64 D.1])∧Below w.heap.size w w'∧((D.1≠0∧v=.agg #[.int .u64 0,.int .u64 0,.slice none 0 0])∨(D.1=0∧D.2.1<2 ^ 64∧D.2.2.1<2 ^ 64∧D.2.2.2.2.length=32*D.2.2.2.1∧(∀ x∈D.2.2.2.2,0≤x∧x≤255)∧∃ g,v=.agg #[.int .u64 (D.2.1:Int),.int .u64 (D.2.2.1:Int),.slice (some ⟨g,0,none⟩) D.2.2.2.1 D.2.2.2.1]∧w.heap.size≤g∧Has w' g (z00 D.2.2.2.2).toArray 23))
end Go.Proofs.YthdpkaiieomdoaaGreatDoor

namespace Go.Proofs.YthdpkaiieomdoaaGreatDoor
open Go.RowKit
set_option maxRecDepth 100000
theorem zeF (PF:Nat→Nat→Int × List Nat) (X Y:Nat) (t:List Int):DC3 PF X Y t=DERR (DC3 PF X Y t).1∨(DC3 PF X Y t).1=0:=by
  unfold DC3
  split
  · exact .inl rfl
  · split
    · exact .inl rfl
    · split
      · exact .inl rfl
      · exact .inr rfl
theorem zeG (PF:Nat→Nat→Int × List Nat) (X:Nat) (t:List Int):DC2 PF X t=DERR (DC2 PF X t).1∨(DC2 PF X t).1=0:=by
  unfold DC2
  split
  · exact .inl rfl
  · exact zeF _ _ _ _
theorem zeH (chk:Nat→Bool) (PF:Nat→Nat→Int × List Nat) (t:List Int):DC1 chk PF t=DERR (DC1 chk PF t).1∨(DC1 chk PF t).1=0:=by
  unfold DC1
  split
  · exact .inl rfl
  · split
    · exact .inl rfl
    · exact zeG _ _ _
theorem zeI {K:Int} {chk:Nat→Bool} {PF:Nat→Nat→Int × List Nat} {l:List Int} (h:(DC0 K chk PF l).1≠0):DC0 K chk PF l=DERR (DC0 K chk PF l).1:=by
  have:DC0 K chk PF l=DERR (DC0 K chk PF l).1∨(DC0 K chk PF l).1=0:=by
    unfold DC0
    split
    · exact .inl rfl
    · split
      · exact .inl rfl
      · exact zeH _ _ _
  rcases this with h1 | h1
  · exact h1
  · exact absurd h1 h
theorem z5W {w:World} {B g N:Nat} {l:List Int} (h:Has w g (z00 l).toArray 23) (hl:l.length=32*N) (hB:B≤g) (hN:N≤1000):w.ownsRow B 23 32 (.slice (some ⟨g,0,none⟩) N N) N (z00 l):=by
  refine ⟨by rw [z00,List.length_map,hl,Nat.mul_comm],.inr ⟨g,N,_,rfl,hB,h,Nat.le_refl _,by simp [maxLen];omega,?_,?_⟩⟩
  · simp [z00,hl,Nat.mul_comm]
  · rw [List.take_of_length_le (by simp [z00,hl];omega)]
def DECO (w:World) (D:DANS) (e:Ending) (w':World):Prop:=
  ∃ a c,e=.returned (.tuple #[.agg #[.int .u64 (D.2.1:Int),.int .u64 (D.2.2.1:Int),.slice a D.2.2.2.1 c],.int .i64 D.1])∧w'.ownsRow w.heap.size 23 32 (.slice a D.2.2.2.1 c) D.2.2.2.1 (z00 D.2.2.2.2)∧(∀ x∈D.2.2.2.2,0≤x∧x≤255)∧Below w.heap.size w w'
theorem DECD.own {w w':World} {K:Int} {chk:Nat→Bool} {PF:Nat→Nat→Int × List Nat} {l:List Int} {e:Ending} (h:DECD w (DC0 K chk PF l) e w') (hf:(DC0 K chk PF l).1=0→(DC0 K chk PF l).2.2.2.1≤1000):DECO w (DC0 K chk PF l) e w':=by
  obtain ⟨v,rfl,hb,h⟩:=h
  rcases h with ⟨hE,rfl⟩ | ⟨hE,h1,h2,h3,h4,g,rfl,hg,hh⟩
  · have hD:=zeI hE
    rw [hD]
    refine ⟨none,0,rfl,World.ownsRow_nil _ _ _ _,by simp [DERR],hb⟩
  · exact ⟨_,_,rfl,z5W hh h3 hg (hf hE),h4,hb⟩
structure FAM (M:Nat) (t:TypeId) (s:Nat) (w:World) (B:Nat) (K:Nat→Prop) (v:Nat→Value) (n:Nat→Nat) (xs:Nat→List Value):Prop where
  row:∀ x,x<M→w.ownsRow B t s (v x) (n x) (xs x)
  apart:∀ x y,x<M→y<M→x≠y→∀ g,(v x).ownBlock=some g→(v y).ownBlock≠some g
  off:∀ x,x<M→∀ g,(v x).ownBlock=some g→¬ K g
theorem FAM.below {M:Nat} {t:TypeId} {s:Nat} {w w':World} {B:Nat} {K:Nat→Prop} {v:Nat→Value} {n:Nat→Nat} {xs:Nat→List Value} (h:FAM M t s w B K v n xs) (hb:Below w.heap.size w w'):FAM M t s w' B K v n xs:=⟨fun x hx=>z0v (h.row x hx) hb,h.apart,h.off⟩
theorem FAM.heap {M:Nat} {t:TypeId} {s:Nat} {w w':World} {B:Nat} {K:Nat→Prop} {v:Nat→Value} {n:Nat→Nat} {xs:Nat→List Value} (h:FAM M t s w B K v n xs) (hk:∀ k,k<w.heap.size→¬ K k→w'.heap[k]?=w.heap[k]?):FAM M t s w' B K v n xs:=⟨fun x hx=>z3x (h.row x hx) fun k e=>hk k ((h.row x hx).lt k e).2 (h.off x hx k e),h.apart,h.off⟩
theorem FAM.turn {M:Nat} {t:TypeId} {s:Nat} {w w':World} {B:Nat} {K:Nat→Prop} {v:Nat→Value} {n:Nat→Nat} {xs:Nat→List Value} (h:FAM M t s w B K v n xs) {x g m c:Nat} {ys:List Value} (hx:x<M) (hK:∀ k,K k→k<w.heap.size)
    (hown:w'.ownsRow B t s (.slice (some ⟨g,0,none⟩) m c) m ys) (hg:w.grownBy w' (v x).ownBlock) (hat:(v x).ownBlock=some g∨w.heap.size≤g):FAM M t s w' B K (UPD v x (.slice (some ⟨g,0,none⟩) m c)) (UPD n x m) (UPD xs x ys)∧∀ k,K k→w'.heap[k]?=w.heap[k]?:=by
  have hgx:∀ y,y<M→y≠x→(v y).ownBlock≠some g:=fun y hy hne e=>by
    rcases hat with h1 | h1
    · exact h.apart x y hx hy (fun e=>hne e.symm) g h1 e
    · have:=((h.row y hy).lt g e).2
      omega
  refine ⟨⟨fun y hy=>?_,fun y z hy hz hne k e=>?_,fun y hy k e hk=>?_⟩,fun k hk=>hg.block k (hK k hk) fun e=>h.off x hx k e.symm hk⟩
  · by_cases e:y=x
    · subst e
      rw [z2S,z2S,z2S]
      exact hown
    · rw [z1d _ _ e,z1d _ _ e,z1d _ _ e]
      exact z3x (h.row y hy) fun k hk=>hg.block k ((h.row y hy).lt k hk).2 fun e2=>h.apart x y hx hy (fun e3=>e e3.symm) k e2.symm hk
  · by_cases e1:y=x
    · subst e1
      rw [z2S] at e
      have e:g=k:=by simpa [Value.ownBlock] using e
      subst e
      rw [z1d _ _ (fun e2=>hne e2.symm)]
      exact hgx z hz fun e2=>hne e2.symm
    · rw [z1d _ _ e1] at e
      by_cases e2:z=x
      · subst e2
        rw [z2S]
        intro e3
        have e3:g=k:=by simpa [Value.ownBlock] using e3
        subst e3
        exact hgx y hy e1 e
      · rw [z1d _ _ e2]
        exact h.apart y z hy hz hne k e
  · by_cases e1:y=x
    · subst e1
      rw [z2S] at e
      have e:g=k:=by simpa [Value.ownBlock] using e
      subst e
      rcases hat with h1 | h1
      · exact h.off y hy g h1 hk
      · have:=hK g hk
        omega
    · rw [z1d _ _ e1] at e
      exact h.off y hy k e hk
end Go.Proofs.YthdpkaiieomdoaaGreatDoor
