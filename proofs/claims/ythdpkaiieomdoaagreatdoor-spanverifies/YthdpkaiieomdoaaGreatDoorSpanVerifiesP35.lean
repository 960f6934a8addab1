/- Texts of SpanVerifies, one behind the other: SpanVerifiesWalk, PosDoor, ProofDoor. -/
import Derived.Test.YthdpkaiieomdoaaGreatDoorRows
import Derived.ProofKit
import Derived.LaidMore
import Derived.OpenShut
import Derived.Stop.Joined
import Derived.Deep.Strs
import Derived.Test.YthdpkaiieomdoaaGreatDoorSpanVerifiesP22
import Derived.Test.YthdpkaiieomdoaaGreatDoorSpanVerifiesP34
namespace Go.Proofs.YthdpkaiieomdoaaGreatDoor
open Go.RowKit
set_option maxRecDepth 100000
theorem zck {d:Int} {F T N K nl:Nat} {lv nd:List Int} (hl:HSS nl lv) (hd:HSS K nd) (hN:N<2 ^ 64):(∀ y∈(SCLA d F T N K nl lv nd).2.2,0≤y∧y≤255)∧(SCLA d F T N K nl lv nd).2.1≤64:=by
  have hP:PC N≤64:=z13 64 N hN
  unfold SCLA
  rcases z1Y F T N K nl with ⟨h,e⟩ | ⟨h,h',e⟩ | ⟨h,h',e⟩
  · rw [e,if_neg h];exact ⟨fun y hy=>by simp at hy,Nat.zero_le _⟩
  · rw [e,if_neg (by decide)];exact ⟨fun y hy=>by simp at hy,Nat.zero_le _⟩
  · rw [e,if_pos rfl];exact ⟨z4v h h' hl hd,hP⟩
theorem Bytes.but20 {bc:Nat} {w w':World} {a:Option Addr} {n:Nat} {l:List Int} (h:Bytes w a n l) (hb:BUT bc w w') (ha:∀ x,a=some x→x.block≠bc):Bytes w' a n l:=by
  refine ⟨h.1,fun h0=>?_,h.2.2⟩
  obtain ⟨b,o,e,hlt,hc⟩:=h.2.1 h0
  exact ⟨b,o,e,Nat.lt_of_lt_of_le hlt hb.2.size,fun j hj=>(World.cell?_of_block (w:=w) (by exact hb.1 b hlt (ha _ e))).trans (hc j hj)⟩
set_option maxHeartbeats 2000000 in
theorem z6o (d:Int) (root:List Int) (N F T:Nat) (al:Option Addr) (nl cl:Nat) (ab:Option Addr) (k cb:Nat) (PS PF PT:Nat) (x:Option Addr) (m cx:Nat) (w:World) (h:¬ (nl≤200∧k≤6400∧m≤200)):
    Calls Tryz.prog 3 #[.int .i64 d,.agg (z00 root).toArray,.int .u64 (N:Int),.int .u64 (F:Int),.int .u64 (T:Int),.slice al nl cl,.slice ab k cb,.agg #[.int .u64 (PS:Int),.int .u64 (PF:Int),.int .u64 (PT:Int),.slice x m cx]] w fun e w'=>e=.returned (.bool true)∧Below w.heap.size w w':=by
  obtain ⟨w1,e1⟩:∃ w1,w.alloc (.cells (z00 root).toArray 23)=w1:=⟨_,rfl⟩
  obtain ⟨w2,e2⟩:∃ w2,w1.alloc (.cells #[.int .u64 (PS:Int),.int .u64 (PF:Int),.int .u64 (PT:Int),.slice x m cx] 28)=w2:=⟨_,rfl⟩
  have s1:w1.heap.size=w.heap.size+1:=by rw [← e1];simp
  have hb2:Below w.heap.size w w2:=by rw [← e2,← e1];exact ((Below.refl _ _).alloc (Nat.le_refl _) _).alloc (by simp) _
  have hP:Has w2 w1.heap.size #[.int .u64 (PS:Int),.int .u64 (PF:Int),.int .u64 (PT:Int),.slice x m cx] 28:=by rw [← e2];exact Has.new _ _ _
  have x3:=hP.cell 3
  have FN:Aside (Below w.heap.size w w2):=hb2
  clear hb2 hP s1
  by_cases hn:(200:Int)<(nl:Int)
  · clear h
    go_enter Tryz.func3,Tryz.ntmps3
    go_wp2_with fail
    go_ret
    exact ⟨rfl,FN.out⟩
  · by_cases hm:(6400:Int)<(k:Int)
    · clear h
      go_enter Tryz.func3,Tryz.ntmps3
      go_wp2_with fail
      go_ret
      exact ⟨rfl,FN.out⟩
    · have hk:(200:Int)<(m:Int):=by omega
      clear h
      go_enter Tryz.func3,Tryz.ntmps3
      go_wp2_with fail
      go_ret
      exact ⟨rfl,FN.out⟩
set_option maxHeartbeats 32000000 in
theorem z6p (d:Int) (root:List Int) (hroot:IsH root) (N F T:Nat) (hF:F<2 ^ 64) (hT64:T<2 ^ 64) (al:Option Addr) (nl cl:Nat) (lv:List Int) (ab:Option Addr) (k cb:Nat) (b:List Int) (PS PF PT:Nat) (hPS:PS<2 ^ 64) (hPT:PT<2 ^ 64) (x:Option Addr) (m cx:Nat) (l:List Int) (w:World) (hFl:Flat w al nl lv) (hzl:al=none→cl=0) (hcl:nl≤cl) (hB:Bytes w ab k b) (hzb:ab=none→cb=0) (hkb:k≤cb) (hFx:Flat w x m l) (hzx:x=none→cx=0) (hcx:m≤cx) (hnl:nl≤200) (hk:k≤6400) (hm:m≤200) (hT:Tabled w) (hX:HX.Tabled w) (h0:0<w.heap.size):
    Calls Tryz.prog 3 #[.int .i64 d,.agg (z00 root).toArray,.int .u64 (N:Int),.int .u64 (F:Int),.int .u64 (T:Int),.slice al nl cl,.slice ab k cb,.agg #[.int .u64 (PS:Int),.int .u64 (PF:Int),.int .u64 (PT:Int),.slice x m cx]] w fun e w'=>e=.returned (.bool true)∧Below w.heap.size w w':=by
  obtain ⟨s,hs⟩:∃ s,w.heap.size=s:=⟨_,rfl⟩
  obtain ⟨b9,hb9⟩:∃ b,w.heap.size=b:=⟨_,rfl⟩
  obtain ⟨w1,e1⟩:∃ w1,w.alloc (.cells (z00 root).toArray 23)=w1:=⟨_,rfl⟩
  obtain ⟨b15,hb15⟩:∃ b,w1.heap.size=b:=⟨_,rfl⟩
  obtain ⟨w2,e2⟩:∃ w2,w1.alloc (.cells #[.int .u64 (PS:Int),.int .u64 (PF:Int),.int .u64 (PT:Int),.slice x m cx] 28)=w2:=⟨_,rfl⟩
  have s1:w1.heap.size=w.heap.size+1:=by rw [← e1];simp
  have hb2:Below w.heap.size w w2:=by rw [← e2,← e1];exact ((Below.refl _ _).alloc (Nat.le_refl _) _).alloc (by simp) _
  have hR2:Has w2 b9 (z00 root).toArray 23:=by rw [← e2,← e1,← hb9];exact (Has.new _ _ _).alloc _
  have hP2:Has w2 b15 #[.int .u64 (PS:Int),.int .u64 (PF:Int),.int .u64 (PT:Int),.slice x m cx] 28:=by rw [← e2,← hb15];exact Has.new _ _ _
  have x3:=hP2.cell 3
  have i1:¬ (200:Int)<(nl:Int):=by omega
  have i2:¬ (6400:Int)<(k:Int):=by omega
  have i3:¬ (200:Int)<(m:Int):=by omega
  have cr:=z8l al nl cl (by omega) hzl lv w2 (hFl.below hb2)
  have HA:Aside (nl≤200∧k≤6400∧m≤200∧nl≤cl∧k≤cb∧m≤cx∧(ab=none→cb=0)∧(x=none→cx=0)∧IsH root∧F<2 ^ 64∧T<2 ^ 64∧PS<2 ^ 64∧PT<2 ^ 64):=⟨hnl,hk,hm,hcl,hkb,hcx,hzb,hzx,hroot,hF,hT64,hPS,hPT⟩
  have HW:Aside (Flat w al nl lv∧Bytes w ab k b∧Flat w x m l∧Tabled w∧HX.Tabled w∧0<w.heap.size):=⟨hFl,hB,hFx,hT,hX,h0⟩
  have W2:Aside (Below w.heap.size w w2∧Has w2 b9 (z00 root).toArray 23∧Has w2 b15 #[.int .u64 (PS:Int),.int .u64 (PF:Int),.int .u64 (PT:Int),.slice x m cx] 28∧w.heap.size=b9∧b15=b9+1):=⟨hb2,hR2,hP2,hb9,by omega⟩
  have r32:=hroot.1
  clear hFl hzl hcl hB hzb hkb hFx hzx hcx hnl hk hm hT hX h0 hb2 hR2 hP2 hroot hF hT64 hPS hPT s1 hs
  go_enter Tryz.func3,Tryz.ntmps3
  go_upto_region 3 with fail
  clear e1 e2 hb9 hb15 i1 i2 i3 x3
  go_wp2_with fail
  refine cr.mono ?_
  rintro e w3 ⟨gr,qr,rfl,r1,r2,r3,r4,r5⟩
  clear cr
  have hb3:Below w.heap.size w w3:=W2.out.1.trans (r5.mono W2.out.1.size)
  have ct:=zch ab k cb (by have:=HA.out;omega) HA.out.2.2.2.2.2.2.1 b w3 (HW.out.2.1.below hb3)
  have W3:Aside (Below w.heap.size w w3∧Below w2.heap.size w2 w3∧w3.ownsRow w2.heap.size 23 32 (.slice (some ⟨gr,0,none⟩) nl qr) nl (z00 lv)∧nl+1≤qr∧w3.rangeAt gr (nl*32) (z00 MRK)∧gr<w3.heap.size):=⟨hb3,r5,r1,r2,r3,r4⟩
  clear r1 r2 r3 r4 r5 hb3
  go_wp2_with fail
  refine ct.mono ?_
  rintro e w4 ⟨gt,qt,rfl,t1,t2,t3,t4,t5⟩
  clear ct
  have hs2:=W3.out.2.1.size
  have hs3:=t5.size
  have hb34:Below w.heap.size w w4:=W3.out.1.trans (t5.mono W3.out.1.size)
  have hgr:w2.heap.size≤gr:=(W3.out.2.2.1.lt gr rfl).1
  have hgt:w3.heap.size≤gt:=(t1.lt gt rfl).1
  have hb24:Below w2.heap.size w2 w4:=W3.out.2.1.trans (t5.mono hs2)
  have HN:Aside (w.heap.size≤gr∧gr<w4.heap.size∧gr≠gt∧gt<w4.heap.size∧b9≠gr∧b15≠gr∧w2.heap.size≤gr):=by
    have h1:=W3.out.2.2.2.2.2
    have h3:=W2.out.2.1.lt
    have h5:=W2.out.2.2.1.lt
    have h4:=W2.out.1.size
    exact ⟨by omega,by omega,by omega,t4,by omega,by omega,hgr⟩
  have hown4:w4.ownsRow w2.heap.size 23 32 (.slice (some ⟨gr,0,none⟩) nl qr) nl (z00 lv):=z0n W3.out.2.2.1 fun k e=>t5.block k (W3.out.2.2.1.lt k e).2
  have FB:Aside (∀ W,BUT gr w4 W→Has W b9 (z00 root).toArray 23∧Below w.heap.size w W∧Tabled W∧HX.Tabled W∧0<W.heap.size∧Has W b15 #[.int .u64 (PS:Int),.int .u64 (PF:Int),.int .u64 (PT:Int),.slice x m cx] 28):=fun W h=>by
    have hb:Below w.heap.size w W:=hb34.trans (h.2.mono HN.out.1)
    have hh:=(W2.out.2.1.keep hb24)
    have hh2:=(W2.out.2.2.1.keep hb24)
    exact ⟨(h.1 b9 hh.lt HN.out.2.2.2.2.1).trans hh,hb,HW.out.2.2.2.1.below HW.out.2.2.2.2.2 hb,HW.out.2.2.2.2.1.below hb,by have:=hb.size;have:=HW.out.2.2.2.2.2;omega,(h.1 b15 hh2.lt HN.out.2.2.2.2.2.1).trans hh2⟩
  have FL:Aside (∀ W,BUT gr w4 W→Flat W al nl lv∧Bytes W ab k b∧Flat W x m l∧Bytes W (some ⟨gt,0,none⟩) k b∧W.cell? ⟨gt,k,none⟩=some (.int .u8 171)):=fun W h=>by
    have hb:Below w.heap.size w W:=hb34.trans (h.2.mono HN.out.1)
    have hn:=HN.out
    exact ⟨HW.out.1.below hb,HW.out.2.1.below hb,HW.out.2.2.1.below hb,(z0X t1 t4 HW.out.2.1.2.2).but20 h (fun x e=>by cases e;exact fun e=>hn.2.2.1 e.symm),(World.cell?_of_block (w:=w4) (by exact h.1 gt t4 (fun e=>hn.2.2.1 e.symm))).trans t3⟩
  have RM:Aside (k+1≤qt∧nl+1≤qr∧w4.rangeAt gr (nl*32) (z00 MRK)):=⟨t2,W3.out.2.2.2.1,fun j v hv=>(t5.cell (p:=⟨gr,nl*32+j,none⟩) W3.out.2.2.2.2.2).trans (W3.out.2.2.2.2.1 j v hv)⟩
  have HL:Aside ((∀ x∈lv,0≤x∧x≤255)∧lv.length=32*nl):=⟨HW.out.1.2.2,HW.out.1.1⟩
  have CV:Aside (∀ W lv',BUT gr w4 W→W.ownsRow w2.heap.size 23 32 (.slice (some ⟨gr,0,none⟩) nl qr) nl (z00 lv')→(∀ x∈lv',0≤x∧x≤255)→Calls Tryz.prog 10 #[.int .i64 d,.agg (z00 root).toArray,.int .u64 (N:Int),.int .u64 (F:Int),.int .u64 (T:Int),.slice (some ⟨gr,0,none⟩) nl qr,.slice (some ⟨gt,0,none⟩) k qt] W fun e w'=>e=.returned (.int .i64 (SVA d root N F T nl lv' b))∧Below W.heap.size W w'):=fun W lv' h ho hr=>by
    have k1:=FL.out W h
    have k2:=FB.out W h
    have hh:=HA.out
    have hrm:=RM.out
    exact z76 d root hh.2.2.2.2.2.2.2.2.1 N F T (some ⟨gr,0,none⟩) nl qr lv' (some ⟨gt,0,none⟩) k qt b W (by omega) (z0L ho hr) (fun x e=>by cases e;exact (ho.lt gr rfl).2) k1.2.2.2.1 (by omega) (by omega) k2.2.2.1 k2.2.2.2.1 k2.2.2.2.2.1
  have CR:Aside (∀ W a2 c2 lv',BUT gr w4 W→Flat W a2 nl lv'→nl≤c2→Calls Tryz.prog 9 #[.int .i64 d,.agg (z00 root).toArray,.int .u64 (N:Int),.int .u64 (F:Int),.int .u64 (T:Int),.slice a2 nl c2,.slice ab k cb] W fun e w'=>e=.returned (.int .i64 (SVA d root N F T nl lv' b))∧Below W.heap.size W w'):=fun W a2 c2 lv' h hF hc=>by
    have k1:=FL.out W h
    have hh:=HA.out
    exact z79 d root hh.2.2.2.2.2.2.2.2.1 N F T a2 nl c2 lv' ab k cb b W (by omega) hh.2.2.2.2.2.2.2.2.2.2.1 hh.2.2.2.2.2.2.2.2.2.1 hF hc k1.2.1 hh.2.2.2.2.1 (by omega)
  have CA:Aside (∀ W,BUT gr w4 W→Calls Tryz.prog 18 #[] W fun e w'=>e=.returned (.bool true)∧Below W.heap.size W w'):=fun W h=>zaY W (FB.out W h).2.2.1 (FB.out W h).2.2.2.2.1
  have CRC:Aside (∀ W,BUT gr w4 W→Calls Tryz.prog 13 #[.int .i64 d,.slice al nl cl,.agg #[.int .u64 (PS:Int),.int .u64 (PF:Int),.int .u64 (PT:Int),.slice x m cx]] W (ANSC W (SCLA d PF PT PS m nl lv l))):=fun W h=>by
    have k1:=FL.out W h
    have hh:=HA.out
    exact z4A d PF PT PS hh.2.2.2.2.2.2.2.2.2.2.2.2 x m cx al nl cl lv l W (by omega) hh.2.2.1 k1.2.2.1 hh.2.2.2.2.2.1 k1.1 hh.2.2.2.1
  have CC:Aside (∀ W g2 q2,BUT gr w4 W→W.ownsRow w2.heap.size 23 32 (.slice (some ⟨gr,0,none⟩) nl qr) nl (z00 lv)→Flat W (some ⟨g2,0,none⟩) m l→g2<W.heap.size→Calls Tryz.prog 14 #[.int .i64 d,.slice (some ⟨gr,0,none⟩) nl qr,.agg #[.int .u64 (PS:Int),.int .u64 (PF:Int),.int .u64 (PT:Int),.slice (some ⟨g2,0,none⟩) m q2]] W (ANSC W (SCLA d PF PT PS m nl lv l))):=fun W g2 q2 h ho hf hg=>by
    have k2:=FB.out W h
    have hh:=HA.out
    exact z4u d PF PT PS hh.2.2.2.2.2.2.2.2.2.2.2.2 (some ⟨g2,0,none⟩) m q2 (some ⟨gr,0,none⟩) nl qr lv l W (by omega) (fun x e=>by cases e;exact hg) hf (fun x e=>by cases e;exact (ho.lt gr rfl).2) (z0L ho HL.out.1) k2.2.2.1 k2.2.2.2.1 k2.2.2.2.2.1
  have HS:Aside (nl≤200∧k≤6400∧m≤200∧nl≤cl∧m≤cx∧(x=none→cx=0)):=⟨HA.out.1,HA.out.2.1,HA.out.2.2.1,HA.out.2.2.2.1,HA.out.2.2.2.2.2.1,HA.out.2.2.2.2.2.2.2.1⟩
  have HG:Aside ((∀ y∈(SCLA d PF PT PS m nl lv l).2.2,0≤y∧y≤255)∧(SCLA d PF PT PS m nl lv l).2.1≤64):=zck ⟨HW.out.1.1,HW.out.1.2.2⟩ ⟨HW.out.2.2.1.1,HW.out.2.2.1.2.2⟩ HA.out.2.2.2.2.2.2.2.2.2.2.2.1
  have O4:Aside (w4.ownsRow w2.heap.size 23 32 (.slice (some ⟨gr,0,none⟩) nl qr) nl (z00 lv)):=hown4
  have LB:Aside (∀ W,Below w4.heap.size w4 W→BUT gr w4 W∧W.ownsRow w2.heap.size 23 32 (.slice (some ⟨gr,0,none⟩) nl qr) nl (z00 lv)):=fun W h=>⟨BUT.of_below h (Nat.le_of_lt HN.out.2.1),z0n O4.out fun k e=>h.block k (O4.out.lt k e).2⟩
  have cd:=CR.out w4 al cl lv (BUT.refl _ _) (FL.out w4 (BUT.refl _ _)).1 HS.out.2.2.2.1
  have hrt:=(FB.out w4 (BUT.refl _ _)).1
  clear hs2 hs3 hb34 hgr hgt hb24 hown4 t1 t2 t3 t4 t5 W2 W3 HW HA
  generalize hVV:SVA d root N F T nl lv b=V at *
  generalize hAA:SCLA d PF PT PS m nl lv l=A at *
  clear hAA
  go_wp2_with (refine wpList_load_row rfl 23 (.tmp 9) rfl b9 rfl 23 (z00 root).toArray (0,0) _ hrt Tryz.underlying23 rfl (z03 r32) ?_)
  refine cd.mono ?_
  rintro e w5 ⟨rfl,hb5⟩
  clear cd hrt
  have cd:=CV.out w5 lv (LB.out w5 hb5).1 (LB.out w5 hb5).2 HL.out.1
  rw [hVV] at cd
  have hrt:=(FB.out w5 (LB.out w5 hb5).1).1
  have W5:Aside (Below w4.heap.size w4 w5):=hb5
  clear hb5
  go_wp2_with (refine wpList_load_row rfl 23 (.tmp 9) rfl b9 rfl 23 (z00 root).toArray (0,0) _ hrt Tryz.underlying23 rfl (z03 r32) ?_)
  refine cd.mono ?_
  rintro e w6 ⟨rfl,hb6⟩
  clear cd hrt
  have h46:Below w4.heap.size w4 w6:=W5.out.trans (hb6.mono W5.out.size)
  have cd:=CV.out w6 lv (LB.out w6 h46).1 (LB.out w6 h46).2 HL.out.1
  rw [hVV] at cd
  have hrt:=(FB.out w6 (LB.out w6 h46).1).1
  have W6:Aside (Below w4.heap.size w4 w6):=h46
  clear hb6 h46 W5 hVV
  go_wp2_with (first
    | (refine z1P (by rfl) 23 (.tmp 9) rfl 32 5 b9 rfl 23 (z00 root).toArray (0,0) hrt Tryz.underlying23 (z03 r32) ?_)
    | fail)
  refine cd.mono ?_
  rintro e w7 ⟨rfl,hb7⟩
  clear cd hrt
  have h47:Below w4.heap.size w4 w7:=W6.out.trans (hb7.mono W6.out.size)
  have KEPT:Aside (∀ W,Below w4.heap.size w4 W→Calls Tryz.prog 11 #[.slice (some ⟨gr,0,none⟩) nl qr,.slice al nl cl] W fun e w'=>e=.returned (.bool true)∧Below W.heap.size W w'):=fun W h=>z6W gr nl qr al cl lv (by have:=HS.out;omega) RM.out.2.1 W (z0L (LB.out W h).2 HL.out.1) (FL.out W (LB.out W h).1).1 (by have:=HN.out;have:=h.size;omega) (fun j v hv=>(h.cell (p:=⟨gr,nl*32+j,none⟩) HN.out.2.1).trans (RM.out.2.2 j v hv))
  have cs:=KEPT.out w7 h47
  have W7:Aside (Below w4.heap.size w4 w7):=h47
  clear hb7 h47 W6
  go_wp2_with fail
  refine cs.mono ?_
  rintro e w8 ⟨rfl,hb8⟩
  clear cs
  have h48:Below w4.heap.size w4 w8:=W7.out.trans (hb8.mono W7.out.size)
  have k8:=FL.out w8 (LB.out w8 h48).1
  have cs:=zaW gt k qt ab cb b (by have:=HS.out;omega) RM.out.1 w8 k8.2.2.2.1 k8.2.1 (by have:=HN.out;have:=h48.size;omega) k8.2.2.2.2
  have W8:Aside (Below w4.heap.size w4 w8):=h48
  clear hb8 h48 W7 k8
  go_wp2_with fail
  refine cs.mono ?_
  rintro e w9 ⟨rfl,hb9⟩
  clear cs
  have h49:Below w4.heap.size w4 w9:=W8.out.trans (hb9.mono W8.out.size)
  have hP9:=(FB.out w9 (LB.out w9 h49).1).2.2.2.2.2
  have x0:=hP9.cell 0
  have x1:=hP9.cell 1
  have x2:=hP9.cell 2
  have x3:=hP9.cell 3
  have W9:Aside (Below w4.heap.size w4 w9):=h49
  obtain ⟨b20,hb20⟩:∃ b,w9.heap.size=b:=⟨_,rfl⟩
  obtain ⟨w10,e10⟩:∃ w10,w9.alloc (.cells #[.int .u64 (PS:Int),.int .u64 (PF:Int),.int .u64 (PT:Int),.slice x m cx] 28)=w10:=⟨_,rfl⟩
  have h410:Below w4.heap.size w4 w10:=by rw [← e10];exact h49.alloc h49.size _
  have hP10:Has w10 b20 #[.int .u64 (PS:Int),.int .u64 (PF:Int),.int .u64 (PT:Int),.slice x m cx] 28:=by rw [← e10,← hb20];exact Has.new _ _ _
  have y3:w10.cell? ⟨b15,3,none⟩=some (.slice x m cx):=(FB.out w10 (LB.out w10 h410).1).2.2.2.2.2.cell 3
  have cr:=z8l x m cx (by have:=HS.out;omega) HS.out.2.2.2.2.2 l w10 (FL.out w10 (LB.out w10 h410).1).2.2.1
  have W10:Aside (Below w4.heap.size w4 w10∧Has w10 b20 #[.int .u64 (PS:Int),.int .u64 (PF:Int),.int .u64 (PT:Int),.slice x m cx] 28∧w4.heap.size≤b20):=⟨h410,hP10,by have:=h49.size;omega⟩
  clear hb9 h49 W8 hP9 h410 hP10
  go_upto_region 8 with fail
  first | rw [e10] | skip
  clear e10 hb20 x0 x1 x2 x3
  go_wp2_with fail
  refine cr.mono ?_
  rintro e w11 ⟨g2,q2,rfl,r1,r2,r3,r4,r5⟩
  clear cr y3
  have hP11:=W10.out.2.1.keep r5
  have z3:w11.cell? ⟨b20,3,none⟩=some (.slice x m cx):=hP11.cell 3
  have f3:=hP11.frozen 3
  obtain ⟨w12,e12⟩:∃ w12,w11.setCell ⟨b20,3,none⟩ (.slice (some ⟨g2,0,none⟩) m q2)=w12:=⟨_,rfl⟩
  have hg2:w10.heap.size≤g2:=(r1.lt g2 rfl).1
  have h411:Below w4.heap.size w4 w11:=W10.out.1.trans (r5.mono W10.out.1.size)
  have h412:Below w4.heap.size w4 w12:=by rw [← e12];exact h411.setCell (p:=⟨b20,3,none⟩) W10.out.2.2 _
  have hP12:Has w12 b20 #[.int .u64 (PS:Int),.int .u64 (PF:Int),.int .u64 (PT:Int),.slice (some ⟨g2,0,none⟩) m q2] 28:=by rw [← e12];exact hP11.set 3 _
  have hne2:g2≠b20:=by have:=W10.out.2.1.lt;omega
  have hs12:w12.heap.size=w11.heap.size:=by rw [← e12];simp [World.setCell]
  have hblk:w12.heap[g2]?=w11.heap[g2]?:=by rw [← e12];exact Below.heap_setCell _ _ _ _ (by exact hne2)
  have hown12:w12.ownsRow w10.heap.size 23 32 (.slice (some ⟨g2,0,none⟩) m q2) m (z00 l):=z0n r1 fun k e=>by
    have e:g2=k:=by simpa [Value.ownBlock] using e
    subst e
    exact hblk
  have hfl2:Flat w12 (some ⟨g2,0,none⟩) m l:=z0L hown12 (FL.out w11 (LB.out w11 h411).1).2.2.1.2.2
  have G2:Aside (Below w4.heap.size w4 w12∧Has w12 b20 #[.int .u64 (PS:Int),.int .u64 (PF:Int),.int .u64 (PT:Int),.slice (some ⟨g2,0,none⟩) m q2] 28∧Flat w12 (some ⟨g2,0,none⟩) m l∧g2<w12.heap.size∧m+1≤q2∧w12.rangeAt g2 (m*32) (z00 MRK)∧w4.heap.size≤w12.heap.size):=⟨h412,hP12,hfl2,by omega,r2,fun j v hv=>(World.cell?_of_block (w:=w11) (by exact hblk)).trans (r3 j v hv),h412.size⟩
  have L12:Aside (∀ W,Below w12.heap.size w12 W→Below w4.heap.size w4 W):=fun W h=>G2.out.1.trans (h.mono G2.out.2.2.2.2.2.2)
  clear r1 r2 r3 r4 r5 hP11 hg2 h411 h412 hP12 hne2 hs12 hblk hfl2 hown12 W9 W10
  go_upto_region 9 with fail
  first | rw [e12] | skip
  clear e12 z3 f3
  have hh:=FB.out w12 (LB.out w12 G2.out.1).1
  have x0:=hh.2.2.2.2.2.cell 0
  have x1:=hh.2.2.2.2.2.cell 1
  have x2:=hh.2.2.2.2.2.cell 2
  have x3:=hh.2.2.2.2.2.cell 3
  have cd:=CRC.out w12 (LB.out w12 G2.out.1).1
  clear hh
  go_wp2_with fail
  refine cd.mono ?_
  rintro e w13 ⟨a21,c21,rfl,o21,hb13⟩
  clear cd x0 x1 x2 x3
  have k13:=LB.out w13 (L12.out w13 hb13)
  have hP13:=G2.out.2.1.keep hb13
  have x0:=hP13.cell 0
  have x1:=hP13.cell 1
  have x2:=hP13.cell 2
  have x3:=hP13.cell 3
  have cd:=CC.out w13 g2 q2 k13.1 k13.2 (G2.out.2.2.1.below hb13) (by have:=hb13.size;have:=G2.out;omega)
  have W13:Aside (Below w12.heap.size w12 w13∧w13.ownsRow w12.heap.size 23 32 (.slice a21 A.2.1 c21) A.2.1 (z00 A.2.2)):=⟨hb13,o21⟩
  clear k13 hP13 hb13 o21
  go_wp2_with fail
  refine cd.mono ?_
  rintro e w14 ⟨a23,c23,rfl,o23,hb14⟩
  clear cd x0 x1 x2 x3
  have h1214:Below w12.heap.size w12 w14:=W13.out.1.trans (hb14.mono W13.out.1.size)
  have k14:=LB.out w14 (L12.out w14 h1214)
  have hP14:=G2.out.2.1.keep h1214
  have x0:=hP14.cell 0
  have x1:=hP14.cell 1
  have x2:=hP14.cell 2
  have x3:=hP14.cell 3
  have cd:=CC.out w14 g2 q2 k14.1 k14.2 (G2.out.2.2.1.below h1214) (by have:=h1214.size;have:=G2.out;omega)
  have W14:Aside (Below w12.heap.size w12 w14∧Below w13.heap.size w13 w14∧w14.ownsRow w13.heap.size 23 32 (.slice a23 A.2.1 c23) A.2.1 (z00 A.2.2)):=⟨h1214,hb14,o23⟩
  clear k14 hP14 hb14 o23 h1214 CC CRC
  go_wp2_with fail
  refine cd.mono ?_
  rintro e w15 ⟨a25,c25,rfl,o25,hb15'⟩
  clear cd x0 x1 x2 x3
  have W15:Aside (Below w12.heap.size w12 w15∧Below w13.heap.size w13 w15∧w15.ownsRow w12.heap.size 23 32 (.slice a21 A.2.1 c21) A.2.1 (z00 A.2.2)∧w15.ownsRow w13.heap.size 23 32 (.slice a23 A.2.1 c23) A.2.1 (z00 A.2.2)∧w15.ownsRow w13.heap.size 23 32 (.slice a25 A.2.1 c25) A.2.1 (z00 A.2.2)∧(∀ g,(Value.slice a23 A.2.1 c23).ownBlock=some g→(Value.slice a25 A.2.1 c25).ownBlock≠some g)∧w12.heap.size≤w13.heap.size):=by
    obtain ⟨p1,p2⟩:=W13.out
    obtain ⟨q1,q2,q3⟩:=W14.out
    have hb1315:Below w13.heap.size w13 w15:=q2.trans (hb15'.mono q2.size)
    refine ⟨q1.trans (hb15'.mono q1.size),hb1315,z0n p2 fun k e=>hb1315.block k (p2.lt k e).2,z0n q3 fun k e=>hb15'.block k (q3.lt k e).2,z0f o25 q2.size,fun g e1 e2=>?_,p1.size⟩
    have h1:=(q3.lt g e1).2
    have h2:=(o25.lt g e2).1
    omega
  clear hb15' o25 W13 W14
  have cs:=z2v a23 a21 A.2.1 A.2.1 c23 c21 A.2.2 A.2.2 w15 (z0L W15.out.2.2.2.1 HG.out.1) (z0L W15.out.2.2.1 HG.out.1) (by have:=HG.out.2;omega)
  rw [show decide (A.2.2=A.2.2)=true by simp] at cs
  go_wp2_with fail
  refine cs.mono ?_
  rintro e w16 ⟨rfl,hb16⟩
  clear cs
  have W16:Aside (Below w12.heap.size w12 w16∧Below w13.heap.size w13 w16∧w16.ownsRow w12.heap.size 23 32 (.slice a21 A.2.1 c21) A.2.1 (z00 A.2.2)∧w16.ownsRow w13.heap.size 23 32 (.slice a23 A.2.1 c23) A.2.1 (z00 A.2.2)∧w16.ownsRow w13.heap.size 23 32 (.slice a25 A.2.1 c25) A.2.1 (z00 A.2.2)∧(∀ g,(Value.slice a23 A.2.1 c23).ownBlock=some g→(Value.slice a25 A.2.1 c25).ownBlock≠some g)∧w12.heap.size≤w13.heap.size):=by
    obtain ⟨z1,z2,z3,z4,z5,z6,z7⟩:=W15.out
    exact ⟨z1.trans (hb16.mono z1.size),z2.trans (hb16.mono z2.size),z0n z3 fun k e=>hb16.block k (z3.lt k e).2,z0n z4 fun k e=>hb16.block k (z4.lt k e).2,z0n z5 fun k e=>hb16.block k (z5.lt k e).2,z6,z7⟩
  clear W15 hb16
  have cs:=z2v a25 a21 A.2.1 A.2.1 c25 c21 A.2.2 A.2.2 w16 (z0L W16.out.2.2.2.2.1 HG.out.1) (z0L W16.out.2.2.1 HG.out.1) (by have:=HG.out.2;omega)
  rw [show decide (A.2.2=A.2.2)=true by simp] at cs
  go_wp2_with fail
  refine cs.mono ?_
  rintro e w17 ⟨rfl,hb17⟩
  clear cs
  have W17:Aside (Below w12.heap.size w12 w17∧Below w13.heap.size w13 w17∧w17.ownsRow w13.heap.size 23 32 (.slice a23 A.2.1 c23) A.2.1 (z00 A.2.2)∧w17.ownsRow w13.heap.size 23 32 (.slice a25 A.2.1 c25) A.2.1 (z00 A.2.2)∧(∀ g,(Value.slice a23 A.2.1 c23).ownBlock=some g→(Value.slice a25 A.2.1 c25).ownBlock≠some g)∧w12.heap.size≤w13.heap.size):=by
    obtain ⟨z1,z2,z3,z4,z5,z6,z7⟩:=W16.out
    exact ⟨z1.trans (hb17.mono z1.size),z2.trans (hb17.mono z2.size),z0n z4 fun k e=>hb17.block k (z4.lt k e).2,z0n z5 fun k e=>hb17.block k (z5.lt k e).2,z6,z7⟩
  clear W16 hb17
  have hP17:=G2.out.2.1.keep W17.out.1
  have y3:w17.cell? ⟨b20,3,none⟩=some (.slice (some ⟨g2,0,none⟩) m q2):=hP17.cell 3
  have y4:w17.cell? ⟨b15,3,none⟩=some (.slice x m cx):=(FB.out w17 (LB.out w17 (L12.out w17 W17.out.1)).1).2.2.2.2.2.cell 3
  have cs:=z6W g2 m q2 x cx l (by have:=HS.out;omega) G2.out.2.2.2.2.1 w17 (G2.out.2.2.1.below W17.out.1) (FL.out w17 (LB.out w17 (L12.out w17 W17.out.1)).1).2.2.1 (by have:=G2.out;have:=W17.out.1.size;omega) (fun j v hv=>(W17.out.1.cell (p:=⟨g2,m*32+j,none⟩) G2.out.2.2.2.1).trans (G2.out.2.2.2.2.2.1 j v hv))
  clear hP17
  go_wp2_with fail
  refine cs.mono ?_
  rintro e w18 ⟨rfl,hb18⟩
  clear cs y3 y4
  have W18:Aside (Below w12.heap.size w12 w18∧w18.ownsRow w13.heap.size 23 32 (.slice a23 A.2.1 c23) A.2.1 (z00 A.2.2)∧w18.ownsRow w13.heap.size 23 32 (.slice a25 A.2.1 c25) A.2.1 (z00 A.2.2)∧(∀ g,(Value.slice a23 A.2.1 c23).ownBlock=some g→(Value.slice a25 A.2.1 c25).ownBlock≠some g)∧w12.heap.size≤w13.heap.size∧w13.heap.size≤w18.heap.size):=by
    obtain ⟨z1,z2,z4,z5,z6,z7⟩:=W17.out
    exact ⟨z1.trans (hb18.mono z1.size),z0n z4 fun k e=>hb18.block k (z4.lt k e).2,z0n z5 fun k e=>hb18.block k (z5.lt k e).2,z6,z7,Nat.le_trans z2.size hb18.size⟩
  clear W17 hb18
  have cs:=z6X w13.heap.size (.slice a23 A.2.1 c23) A.2.1 (z00 A.2.2) 201 (by have:=HG.out.2;omega) w18 W18.out.2.2.2.2.2 W18.out.2.1
  go_wp2_with fail
  refine cs.mono ?_
  rintro e w19 ⟨gu,qu,rfl,u1,u2,u3⟩
  clear cs
  have o25:w19.ownsRow w13.heap.size 23 32 (.slice a25 A.2.1 c25) A.2.1 (z00 A.2.2):=z4L W18.out.2.2.1 u2 W18.out.2.2.2.1
  have hb19:Below w12.heap.size w12 w19:=W18.out.1.grown u2 (by have:=W18.out;omega) (fun k e=>by have:=(W18.out.2.1.lt k e).1;have:=W18.out;omega)
  have W19:Aside (Below w12.heap.size w12 w19∧w19.ownsRow w13.heap.size 23 32 (.slice (some ⟨gu,0,none⟩) (A.2.1+1+1) qu) (A.2.1+1+1) (z00 (MKS 201 (A.2.1+1+1)))∧w19.ownsRow w13.heap.size 23 32 (.slice a25 A.2.1 c25) A.2.1 (z00 A.2.2)∧(Value.slice a25 A.2.1 c25).ownBlock≠some gu∧w12.heap.size≤w13.heap.size∧w13.heap.size≤w19.heap.size):=by
    refine ⟨hb19,u1,o25,fun e=>?_,W18.out.2.2.2.2.1,Nat.le_trans W18.out.2.2.2.2.2 u2.size⟩
    rcases u3 with h | h
    · exact W18.out.2.2.2.1 _ h e
    · have:=(W18.out.2.2.1.lt _ e).2
      omega
  clear u1 u2 u3 o25 hb19 W18
  have cs:=z6X w13.heap.size (.slice a25 A.2.1 c25) A.2.1 (z00 A.2.2) 202 (by have:=HG.out.2;omega) w19 W19.out.2.2.2.2.2 W19.out.2.2.1
  go_wp2_with fail
  refine cs.mono ?_
  rintro e w20 ⟨gv,qv,rfl,u1,u2,u3⟩
  clear cs
  have W20:Aside (Below w12.heap.size w12 w20∧w20.ownsRow w13.heap.size 23 32 (.slice (some ⟨gu,0,none⟩) (A.2.1+1+1) qu) (A.2.1+1+1) (z00 (MKS 201 (A.2.1+1+1)))∧w20.ownsRow w13.heap.size 23 32 (.slice (some ⟨gv,0,none⟩) (A.2.1+1+1) qv) (A.2.1+1+1) (z00 (MKS 202 (A.2.1+1+1)))):=by
    refine ⟨W19.out.1.grown u2 (by have:=W19.out;omega) (fun k e=>by have:=(W19.out.2.2.1.lt k e).1;have:=W19.out;omega),z4L W19.out.2.1 u2 (fun g e1 e2=>?_),u1⟩
    have e2:gu=g:=by simpa [Value.ownBlock] using e2
    subst e2
    exact W19.out.2.2.2.1 e1
  clear u1 u2 u3 W19
  have ca1:=z8m w13.heap.size gu (A.2.1+1+1) qu 201 (by have:=HG.out.2;omega) w20 W20.out.2.1
  have ca2:=z8m w13.heap.size gv (A.2.1+1+1) qv 202 (by have:=HG.out.2;omega) w20 W20.out.2.2
  have cs:=KEPT.out w20 (L12.out w20 W20.out.1)
  have W20b:Aside (Below w4.heap.size w4 w20):=L12.out w20 W20.out.1
  clear W20 L12 G2 KEPT
  go_wp2_with fail
  refine ca1.mono ?_
  rintro e w20' ⟨rfl,rfl⟩
  clear ca1
  go_wp2_with fail
  refine ca2.mono ?_
  rintro e w20' ⟨rfl,rfl⟩
  clear ca2
  go_wp2_with fail
  refine cs.mono ?_
  rintro e w21 ⟨rfl,hb21⟩
  clear cs
  have S0:Aside (BUT gr w4 w21∧w21.ownsRow w2.heap.size 23 32 (.slice (some ⟨gr,0,none⟩) nl qr) nl (z00 (INCH lv 0))):=by
    have h421:=W20b.out.trans (hb21.mono W20b.out.size)
    exact ⟨(LB.out w21 h421).1,(LB.out w21 h421).2⟩
  clear hb21 W20b O4 LB
  go_wp2_with fail
  go_loopg [29] nl (fun q s17 wx=>∃ i:Nat,s17=.int .i64 (i:Int)∧Aside (i+q=nl∧BUT gr w4 wx∧wx.ownsRow w2.heap.size 23 32 (.slice (some ⟨gr,0,none⟩) nl qr) nl (z00 (INCH lv i))))
  case atStart=>exact ⟨0,rfl,by omega,S0.out.1,S0.out.2⟩
  case round=>
    obtain ⟨i,rfl,A⟩:=hrel
    clear S0
    cases gk with
    | succ q=>
      have hin:i<nl:=by have:=A.out.1;omega
      have hlt:(i:Int)<(nl:Int):=by omega
      have ei:wrap64 ((i:Int)+1)=((i+1:Nat):Int):=by have:=HS.out;unfold wrap64;omega
      have hpl:i*32<(INCH lv i).length:=by rw [z59,HL.out.2];clear ei;omega
      obtain ⟨X,hXX⟩:∃ X,(INCH lv i).getD (i*32) 0=X:=⟨_,rfl⟩
      have hcell:wr.cell? ⟨gr,i*32,none⟩=some (.int .u8 X):=by
        have h1:=A.out.2.2.cellAt (i*32) (by clear ei;omega)
        rw [h1,← hXX,z00,List.getElem?_map,List.getElem?_eq_getElem hpl,List.getD_eq_getElem?_getD,List.getElem?_eq_getElem hpl]
        rfl
      have hfro:wr.frozen? ⟨gr,i*32,none⟩=false:=by
        rcases A.out.2.2.2 with ⟨e,_⟩ | ⟨g',cap,cur,e,_,hg,_⟩
        · cases e
        · cases e
          exact Has.frozen (show Has wr gr cur 23 from hg) _
      have hX1:IntKind.u8.wrap (X+1)=(X+1) % 256:=by simp [IntKind.wrap,IntKind.bits,IntKind.signed]
      have Z:Aside (i+1+q=nl∧BUT gr w4 (wr.drew.setCell ⟨gr,i*32,none⟩ (.int .u8 ((X+1) % 256)))∧(wr.drew.setCell ⟨gr,i*32,none⟩ (.int .u8 ((X+1) % 256))).ownsRow w2.heap.size 23 32 (.slice (some ⟨gr,0,none⟩) nl qr) nl (z00 (INCH lv (i+1)))):=by
        refine ⟨by have:=A.out.1;clear ei;omega,⟨fun q hq hne=>(Below.heap_setCell _ _ _ _ (by exact hne)).trans (A.out.2.1.1 q hq hne),(A.out.2.1.2.drew).setCell (p:=⟨gr,i*32,none⟩) (Nat.le_refl _) _⟩,?_⟩
        rw [INCH,hXX]
        exact z90 (w:=wr.drew) A.out.2.2 _
      clear A hpl hXX hin
      generalize (X+1) % 256=X1 at *
      go_upto_region 20 with fail
      refine z91 wr gr nl qr i X X1 hlt hX1 (fun W=>W=wr.drew) (fun W=>W=wr.drew.setCell ⟨gr,i*32,none⟩ (.int .u8 X1)) rfl (fun W h=>by subst h;exact ⟨hcell,hfro⟩) (fun W h=>by subst h;rfl) (fun _ _ _ _ _ h=>h) ?_
      rintro w11 rfl
      dsimp only
      clear hcell hfro hX1
      generalize wr.drew.setCell ⟨gr,i*32,none⟩ (.int .u8 X1)=w11 at *
      go_wp2
      go_roundg q
      case measure=>exact Nat.lt_succ_self _
      case rel=>exact ⟨i+1,by first | rfl | (rw [ei]),Z.out⟩
    | zero=>
      obtain rfl:i=nl:=by have:=A.out.1;omega
      have hlt:¬ (i:Int)<(i:Int):=by omega
      go_upto_region 21 with fail
      obtain ⟨VV,hVV⟩:∃ VV,SVA d root N F T i (INCH lv i) b=VV:=⟨_,rfl⟩
      have PA:Aside (∀ W,(BUT gr w4 W∧W.ownsRow w2.heap.size 23 32 (.slice (some ⟨gr,0,none⟩) i qr) i (z00 (INCH lv i)))→∀ W',Below W.heap.size W W'→(BUT gr w4 W'∧W'.ownsRow w2.heap.size 23 32 (.slice (some ⟨gr,0,none⟩) i qr) i (z00 (INCH lv i)))):=fun W h W' hb=>⟨h.1.trans (BUT.of_below hb (by have:=(h.2.lt gr rfl).2;omega)),z0n h.2 fun k e=>hb.block k (h.2.lt k e).2⟩
      refine z92 wr d N F T b9 gr i qr gt k qt cb w4.heap.size ab root (INCH lv i) VV r32 (by have:=HS.out;omega) (fun W=>BUT gr w4 W∧W.ownsRow w2.heap.size 23 32 (.slice (some ⟨gr,0,none⟩) i qr) i (z00 (INCH lv i))) (PA.out wr ⟨A.out.2.1,A.out.2.2⟩ _ (Below.refl _ wr).drew) (fun W h=>z8Y (FB.out W h.1).1) (fun W h=>h.1.2.size) (fun W h=>z0L h.2 (z2C HL.out.1 i)) (fun W o h=>PA.out W h _ ((Below.refl _ _).alloc (Nat.le_refl _) _)) (fun W W' z h hg hz=>?_) (fun W h=>?_) (fun W a2 c2 h ho=>?_) (fun W h=>?_) (fun _ _ _ _ _ h=>h) ?_
      · have hbb:∀ q,q<W.heap.size→z≠some q→W'.heap[q]?=W.heap[q]?:=fun q hq hne=>hg.block q hq fun e=>hne e.symm
        have hn:=HN.out
        have hs:=h.1.2.size
        refine ⟨⟨fun q hq hne=>(hbb q (by omega) (fun e=>by have:=hz q e;omega)).trans (h.1.1 q hq hne),?_⟩,z0n h.2 fun k e=>?_⟩
        · exact h.1.2.grown hg (by omega) (fun k e=>by have:=hz k e;omega)
        · have e:gr=k:=by simpa [Value.ownBlock] using e
          subst e
          exact hbb gr (by omega) (fun e=>by have:=hz gr e;omega)
      · have:=CV.out W (INCH lv i) h.1 h.2 (z2C HL.out.1 i)
        rw [hVV] at this
        exact this.mono fun e w' hh=>⟨hh.1,PA.out W h w' hh.2,hh.2⟩
      · have:=CR.out W a2 c2 (INCH lv i) h.1 (z0L ho (z2C HL.out.1 i)) (z3N ho).1
        rw [hVV] at this
        exact this.mono fun e w' hh=>⟨hh.1,PA.out W h w' hh.2⟩
      · exact (CA.out W h.1).mono fun e w' hh=>⟨hh.1,PA.out W h w' hh.2⟩
      · intro z a2 c2 w12 h12
        dsimp only
        have FN:Aside (Below w.heap.size w w12):=(FB.out w12 h12.1).2.1
        clear h12 PA CV CR CA FB FL A
        go_wp2_with fail
        go_ret
        exact ⟨rfl,FN.out⟩
theorem z4M (d:Int) (root:List Int) (hroot:IsH root) (N F T:Nat) (hF:F<2 ^ 64) (hT64:T<2 ^ 64) (al:Option Addr) (nl cl:Nat) (lv:List Int) (ab:Option Addr) (k cb:Nat) (b:List Int) (PS PF PT:Nat) (hPS:PS<2 ^ 64) (hPT:PT<2 ^ 64) (x:Option Addr) (m cx:Nat) (l:List Int) (w:World) (hFl:Flat w al nl lv) (hzl:al=none→cl=0) (hcl:nl≤cl) (hB:Bytes w ab k b) (hzb:ab=none→cb=0) (hkb:k≤cb) (hzx:x=none→cx=0) (hFx:Flat w x m l) (hcx:m≤cx) (hT:Tabled w) (hX:HX.Tabled w) (h0:0<w.heap.size):
    Calls Tryz.prog 3 #[.int .i64 d,.agg (z00 root).toArray,.int .u64 (N:Int),.int .u64 (F:Int),.int .u64 (T:Int),.slice al nl cl,.slice ab k cb,.agg #[.int .u64 (PS:Int),.int .u64 (PF:Int),.int .u64 (PT:Int),.slice x m cx]] w fun e w'=>e=.returned (.bool true)∧Below w.heap.size w w':=by
  by_cases h:nl≤200∧k≤6400∧m≤200
  · exact z6p d root hroot N F T hF hT64 al nl cl lv ab k cb b PS PF PT hPS hPT x m cx l w hFl hzl hcl hB hzb hkb hFx hzx hcx h.1 h.2.1 h.2.2 hT hX h0
  · exact z6o d root N F T al nl cl ab k cb PS PF PT x m cx w h
end Go.Proofs.YthdpkaiieomdoaaGreatDoor

namespace Go.Proofs.YthdpkaiieomdoaaGreatDoor
open Go.ChangeShapes Go.WideShapes Go.ChangeAt Go.WideMaps Go.WideElems Go.RowKit
set_option maxRecDepth 100000
theorem own:ownKnob Tryz.prog.godebug=none:=by kernel_rfl
theorem z3o:laidOutB Tryz.prog=true:=by kernel_rfl
theorem gTab:Tryz.prog.globalNamed "math/bits.deBruijn64tab"=some 2:=by kernel_rfl
theorem tTab:(Tryz.prog.globals[2]?).map (·.type)=some 147:=by kernel_rfl
theorem zeU {H:Type}:(Rows.laid_math_bits_deBruijn64tab:DataW H)=.agg (TAB.map fun n=>.lit (.int .u8 (n:Nat))):=rfl
end Go.Proofs.YthdpkaiieomdoaaGreatDoor

namespace Go.Proofs.YthdpkaiieomdoaaGreatDoor
open Go.ChangeShapes Go.WideShapes Go.ChangeAt Go.WideMaps Go.WideElems Go.RowKit Go.Deep
set_option maxRecDepth 100000
theorem z6Y {H:Type} {enc:TypeId × Value→H} {W:World} {fuel:Nat} {cs:List Value} {x:DataW H × List MemPlace} (hf:DataW.trod enc Tryz.prog W 0 (fun _=>true) true fuel 23 cs=some x):∃ h:List Int,h.length=32∧(∀ x∈h,0≤x∧x≤255)∧cs=z00 h:=by
  obtain ⟨xs,m,rfl,_,hl,hn,hel⟩:=DataW.trod_array Tryz.underlying23 hf
  have c5:Tryz.prog.cellsOf 5=1:=by kernel_rfl
  have c32:Tryz.prog.cellsOf 23=32:=by kernel_rfl
  rw [c32] at hl
  have hx:∀ i,i<32→∃ k:Int,cs[i]?=some (.int .u8 k)∧0≤k∧k≤255:=fun i hi=>by
    have h0:=hel i hi
    rw [List.getElem?_eq_getElem (by omega),c5,Nat.mul_one] at h0
    obtain ⟨k,e1,_,e3⟩:=DataW.trod_int Tryz.underlying5 h0
    have hb:=bounds_u8 e3
    refine ⟨k,?_,by omega,by omega⟩
    have:=congrArg (fun l=>l[0]?) e1
    simpa using this
  have F:∃ f:Nat→Int,∀ i,i<32→cs[i]?=some (.int .u8 (f i))∧0≤f i∧f i≤255:=by
    refine ⟨fun i=>if hi:i<32 then (hx i hi).choose else 0,fun i hi=>?_⟩
    simp only [hi,dif_pos]
    exact (hx i hi).choose_spec
  obtain ⟨f,hf1⟩:=F
  refine ⟨(List.range 32).map f,by simp,fun x hx=>?_,?_⟩
  · simp only [List.mem_map,List.mem_range] at hx
    obtain ⟨i,hi,rfl⟩:=hx
    exact (hf1 i hi).2
  · apply List.ext_getElem?
    intro i
    by_cases hi:i<32
    · rw [(hf1 i hi).1,z0k _ i (by simp;exact hi),List.getD_eq_getElem?_getD,List.getElem?_map,List.getElem?_range hi]
      rfl
    · rw [List.getElem?_eq_none (by omega),List.getElem?_eq_none (by simp [z00];omega)]
theorem zdM {H:Type} {enc:TypeId × Value→H} {W:World} {r:Reach} {b0:Nat} {v:Value} {d:DataW H} {ps:List MemPlace} (hval:Value.okWide Tryz.prog W r b0 23 v) (hd:DataW.Trod enc Tryz.prog W 0 (fun _=>true) true 23 v d ps):∃ h:List Int,h.length=32∧(∀ x∈h,0≤x∧x≤255)∧v=.agg (z00 h).toArray:=by
  simp only [Value.okWide,Tryz.underlying23] at hval
  obtain ⟨cs,rfl,hsz,_⟩:=hval
  obtain ⟨fuel,hf⟩:=hd
  obtain ⟨h,h1,h2,h3⟩:=z6Y hf
  refine ⟨h,h1,h2,?_⟩
  congr 1
  apply Array.ext'
  simpa [Value.cells] using h3
theorem z6Z {H:Type} {enc:TypeId × Value→H} {W:World} {fuel:Nat} {a:Option Addr} {k c:Nat} {x:DataW H × List MemPlace} (hf:DataW.trod enc Tryz.prog W 0 (fun _=>true) true fuel 25 [.slice a k c]=some x):
    ∃ l:List Int,Flat W a k l∧(a=none→c=0)∧k≤c:=by
  rcases DataW.trod_slice Tryz.underlying25 hf with ⟨h0,_⟩ | ⟨ad,len,cap,elems,rest,n,_,h0,hx,_,hl,hm,hlen,hel,_,_⟩
  · simp at h0
    obtain ⟨rfl,rfl,rfl⟩:=h0
    exact ⟨[],⟨rfl,fun h=>absurd h (by omega),by simp⟩,fun _=>rfl,Nat.le_refl _⟩
  · simp at h0
    obtain ⟨rfl,rfl,rfl⟩:=h0
    have c32:Tryz.prog.cellsOf 23=32:=by kernel_rfl
    have each:∀ i,i<k→∃ h:List Int,h.length=32∧(∀ x∈h,0≤x∧x≤255)∧∀ j,j<32→W.cell? ((ad.add (i*32)).add j)=some (.int .u8 (h.getD j 0)):=fun i hi=>by
      have h:=hel i hi
      rw [List.getElem?_eq_getElem (by omega),c32,Option.bind_eq_some_iff] at h
      obtain ⟨cs,hcs,ht⟩:=h
      obtain ⟨f,h1,h2,rfl⟩:=z6Y ht
      have hs:=(World.cells?_some hcs).2.2
      refine ⟨f,h1,h2,fun j hj=>?_⟩
      have s:=hs j hj
      rw [s]
      exact z0k f j (by omega)
    have F:∃ f:Nat→List Int,∀ i,i<k→(f i).length=32∧(∀ x∈f i,0≤x∧x≤255)∧∀ j,j<32→W.cell? ((ad.add (i*32)).add j)=some (.int .u8 ((f i).getD j 0)):=by
      refine ⟨fun i=>if hi:i<k then (each i hi).choose else [],fun i hi=>?_⟩
      simp only [hi,dif_pos]
      exact (each i hi).choose_spec
    obtain ⟨f,hf2⟩:=F
    have hrange:∀ i,i<k→∀ j,j<32→0≤(f i).getD j 0∧(f i).getD j 0≤255:=fun i hi j hj=>by
      rw [List.getD_eq_getElem?_getD,List.getElem?_eq_getElem (by rw [(hf2 i hi).1];exact hj)]
      exact (hf2 i hi).2.1 _ (List.getElem_mem _)
    refine ⟨(List.range (32*k)).map fun m=>(f (m / 32)).getD (m % 32) 0,⟨by simp,fun h0k=>?_,fun x hx=>?_⟩,(fun e=>by cases e),by omega⟩
    · obtain ⟨b,off,spot⟩:=ad
      have hc:=(hf2 0 h0k).2.2 0 (by decide)
      have hspot:spot=none:=by simpa [Addr.add] using World.cell?_spot hc
      subst hspot
      refine ⟨b,off,rfl,?_,fun m hm=>?_⟩
      · have:=World.block_lt_of_cell? W _ hc
        simpa [Addr.add] using this
      · have h1:=(hf2 (m / 32) (by omega)).2.2 (m % 32) (by omega)
        rw [z0H,z0H] at h1
        rw [List.getD_eq_getElem?_getD,List.getElem?_map,List.getElem?_range hm]
        simp only [Option.map_some,Option.getD_some]
        rw [← h1]
        congr 2
        omega
    · simp only [List.mem_map,List.mem_range] at hx
      obtain ⟨m,hm,rfl⟩:=hx
      exact hrange _ (by omega) _ (by omega)
theorem zcl {H:Type} {enc:TypeId × Value→H} {W:World} {a:Option Addr} {k c:Nat} {d:DataW H} {ps:List MemPlace} (hd:DataW.Trod enc Tryz.prog W 0 (fun _=>true) true 25 (.slice a k c) d ps):∃ l:List Int,Flat W a k l∧(a=none→c=0)∧k≤c:=by
  obtain ⟨fuel,hf⟩:=hd
  exact z6Z (by simpa [Value.cells] using hf)
theorem z70 {H:Type} {enc:TypeId × Value→H} {W:World} {a:Option Addr} {len cap:Nat} {d:DataW H} {ps:List MemPlace} (hd:DataW.Trod enc Tryz.prog W 0 (fun _=>true) true 26 (.slice a len cap) d ps):
    ∃ l:List Int,Bytes W a len l∧(a=none→cap=0)∧len≤cap:=by
  obtain ⟨fuel,hf⟩:=hd
  rcases open_ints Tryz.underlying26 Tryz.underlying5 (by kernel_rfl) hf with ⟨hcs,_⟩ | ⟨x,l,c,zs,hcs,_,hl,hm,hz,hx,hcell,hwz⟩
  · simp [Value.cells] at hcs
    obtain ⟨rfl,rfl,rfl⟩:=hcs
    exact ⟨[],⟨rfl,fun h=>by omega,by simp⟩,fun _=>rfl,Nat.le_refl _⟩
  · simp [Value.cells] at hcs
    obtain ⟨rfl,rfl,rfl⟩:=hcs
    have hr:IsRow .u8 W (some x) len cap zs:=.inr ⟨_,rfl,hl,hm,by simpa using hz,hcell,hwz⟩
    exact ⟨_,hr.bytes,(fun e=>by cases e),hl⟩
end Go.Proofs.YthdpkaiieomdoaaGreatDoor
