/- Texts of VerifyTurns, one behind the other: VerifyMember, VerifyReachRegion, CutJoins. -/
import Derived.Test.YthjeeblddipiiaaGreatDoorVerifyTurnsP6
import Derived.Test.YthjeeblddipiiaaGreatDoorVerifyTurnsP8
import Derived.Test.YthjeeblddipiiaaGreatDoorVerifyTurnsP16
import Derived.Test.YthjeeblddipiiaaGreatDoorVerifyTurnsP19
namespace Go.Proofs.YthjeeblddipiiaaGreatDoor
open Go.RowKit
set_option maxRecDepth 100000
theorem zcw {d:Int} {leaf:List Int} {S I n:Nat} {l:List Int} (hleaf:IsH leaf) (hl:l.length=32*n) (hr:∀ x∈l,0≤x∧x≤255):∀ x∈(CLA d leaf S I n l).2.2,0≤x∧x≤255:=by
  unfold CLA
  split
  · simp
  · split
    · simp
    · rename_i h1 h2
      have hlen:(PSP I S).length=n:=by
        have h3:n=(PLA I S).2.length:=Decidable.not_not.1 h2
        have h4:(PLA I S).1=0:=Decidable.not_not.1 h1
        rw [h3]
        unfold PLA at h4 ⊢
        split at h4
        · simp at h4
        · rename_i h5
          split at h4
          · simp at h4
          · rename_i h6
            rw [if_neg h5,if_neg h6]
            exact (z0t _).symm
      intro x hx
      obtain ⟨s,_,hs⟩:=List.mem_flatMap.1 hx
      refine (z79 (d:=d) (I:=I) (z3s (z3t hl hr (PSP I S).length (by omega)) hleaf 0 I) (RISE I S) s.1 s.2).2 x hs
def MEMA (d:Int) (root:List Int) (n i:Nat) (leaf bl:List Int):Int:=
  if (DEC bl).1≠0 then (DEC bl).1 else if (DEC bl).2.1≠n then 30 else if (DEC bl).2.2.1≠i then 32 else
    UNDA d n (CLA d leaf (DEC bl).2.1 (DEC bl).2.2.1 (DEC bl).2.2.2.1 (DEC bl).2.2.2.2).2.1 (CLA d leaf (DEC bl).2.1 (DEC bl).2.2.1 (DEC bl).2.2.2.1 (DEC bl).2.2.2.2).2.2 root
set_option maxHeartbeats 4000000 in
theorem z4h (d:Int) (root:List Int) (hroot:IsH root) (n i:Nat) (hn:n<2 ^ 64) (leaf:List Int) (hleaf:IsH leaf) (ba:Option Addr) (bn bc:Nat) (hbn:bn≤1000000) (hbc:bn≤bc) (bl:List Int) (w:World) (hB:Bytes w ba bn bl) (hT:Tabled w) (hX:HX.Tabled w) (h0:2<w.heap.size):
    Calls Tryz.prog 10 #[.int .i64 d,.agg (z00 root).toArray,.int .u64 (n:Int),.int .u64 (i:Int),.agg (z00 leaf).toArray,.slice ba bn bc] w fun e w'=>e=.returned (.int .i64 (MEMA d root n i leaf bl))∧Below w.heap.size w w':=by
  have l32:=hleaf.1
  have r32:=hroot.1
  obtain ⟨b7,hb7⟩:∃ b7,b7=w.heap.size:=⟨_,rfl⟩
  have R0:Aside (Below w.heap.size w ((w.alloc (.cells (z00 root).toArray 32)).alloc (.cells (z00 leaf).toArray 32))∧Has ((w.alloc (.cells (z00 root).toArray 32)).alloc (.cells (z00 leaf).toArray 32)) b7 (z00 root).toArray 32∧Has ((w.alloc (.cells (z00 root).toArray 32)).alloc (.cells (z00 leaf).toArray 32)) (b7+1) (z00 leaf).toArray 32):=by
    rw [hb7]
    exact ⟨((Below.refl _ _).alloc (Nat.le_refl _) _).alloc (by simp) _,(Has.new _ _ _).alloc _,Has.at _ _ _ (by simp)⟩
  have HT:Aside (∀ W,Below w.heap.size w W→Tabled W∧HX.Tabled W∧0<W.heap.size∧Bytes W ba bn bl∧2<W.heap.size):=fun W h=>by
    have hs:=h.size
    exact ⟨hT.below (by omega) h,hX.below h,by omega,hB.below h,by omega⟩
  have HA:Aside (IsH root∧IsH leaf∧n<2 ^ 64∧bn≤1000000∧bn≤bc):=⟨hroot,hleaf,hn,hbn,hbc⟩
  clear hroot hleaf hn hbn hbc hB hT hX h0
  obtain ⟨E,S,I,N,t,hD⟩:∃ E S I N t,DEC bl=(E,S,I,N,t):=⟨_,_,_,_,_,rfl⟩
  have hU:MEMA d root n i leaf bl=if E≠0 then E else if S≠n then 30 else if I≠i then 32 else UNDA d n (CLA d leaf S I N t).2.1 (CLA d leaf S I N t).2.2 root:=by unfold MEMA;rw [hD]
  generalize MEMA d root n i leaf bl=U at *
  have HV:Aside ((¬ E=0→U=E)∧(E=0→¬ S=n→U=30)∧(E=0→S=n→¬ I=i→U=32)∧(E=0→S=n→I=i→U=UNDA d n (CLA d leaf S I N t).2.1 (CLA d leaf S I N t).2.2 root)):=
    ⟨fun h=>hU.trans (if_pos h),fun h1 h2=>by rw [hU,if_neg (by simpa using h1),if_pos h2],fun h1 h2 h3=>by rw [hU,if_neg (by simpa using h1),if_neg (by simpa using h2),if_pos h3],fun h1 h2 h3=>by rw [hU,if_neg (by simpa using h1),if_neg (by simpa using h2),if_neg (by simpa using h3)]⟩
  clear hU
  have HD:Aside (DEC bl=(E,S,I,N,t)):=hD
  clear hD
  go_enter Tryz.func10,Tryz.ntmps10
  go_upto_region 1 with fail
  rw [← hb7]
  have HB:Aside (b7=w.heap.size):=hb7
  clear hb7
  generalize (w.alloc (.cells (z00 root).toArray 32)).alloc (.cells (z00 leaf).toArray 32)=W0 at *
  go_wp2_with fail
  have cD:=zaW ba bn bc HA.out.2.2.2.1 bl W0 (HT.out _ R0.out.1).2.2.2.1 HA.out.2.2.2.2 (HT.out _ R0.out.1).1 (HT.out _ R0.out.1).2.2.1
  rw [HD.out] at cD
  refine cD.mono ?_
  clear cD HD
  rintro e w1 ⟨a1,c1,rfl,hrow,hr,hb⟩
  dsimp only at *
  obtain ⟨b8,hb8⟩:∃ b,b=w1.heap.size:=⟨_,rfl⟩
  have hbb:Below w1.heap.size w1 (w1.alloc (.cells #[.int .u64 (S:Int),.int .u64 (I:Int),.slice a1 N c1] 27)):=(Below.refl _ _).alloc (Nat.le_refl _) _
  have R1:Aside (Below w.heap.size w (w1.alloc (.cells #[.int .u64 (S:Int),.int .u64 (I:Int),.slice a1 N c1] 27))∧Has (w1.alloc (.cells #[.int .u64 (S:Int),.int .u64 (I:Int),.slice a1 N c1] 27)) b7 (z00 root).toArray 32∧Has (w1.alloc (.cells #[.int .u64 (S:Int),.int .u64 (I:Int),.slice a1 N c1] 27)) (b7+1) (z00 leaf).toArray 32∧Has (w1.alloc (.cells #[.int .u64 (S:Int),.int .u64 (I:Int),.slice a1 N c1] 27)) b8 #[.int .u64 (S:Int),.int .u64 (I:Int),.slice a1 N c1] 27∧Flat (w1.alloc (.cells #[.int .u64 (S:Int),.int .u64 (I:Int),.slice a1 N c1] 27)) a1 N t):=
    ⟨(R0.out.1.trans (hb.mono R0.out.1.size)).trans (hbb.mono (R0.out.1.trans (hb.mono R0.out.1.size)).size),(R0.out.2.1.keep hb).keep hbb,(R0.out.2.2.keep hb).keep hbb,Has.at _ _ _ hb8,(z2o hrow hr).below hbb⟩
  clear hrow hr hb hbb R0
  go_upto_region 2 with fail
  rw [← hb8]
  clear hb8
  generalize w1.alloc (.cells #[.int .u64 (S:Int),.int .u64 (I:Int),.slice a1 N c1] 27)=W1 at *
  clear w1 W0
  have y0:W1.cell? ⟨b8,0,none⟩=some (.int .u64 (S:Int)):=R1.out.2.2.2.1.cell 0
  have y1:W1.cell? ⟨b8,1,none⟩=some (.int .u64 (I:Int)):=R1.out.2.2.2.1.cell 1
  have y2:W1.cell? ⟨b8,2,none⟩=some (.slice a1 N c1):=R1.out.2.2.2.1.cell 2
  have hb:=R1.out.1
  by_cases hE:E=0
  · by_cases hS:S=n
    · by_cases hI:I=i
      · have HW:Aside (U=UNDA d n (CLA d leaf S I N t).2.1 (CLA d leaf S I N t).2.2 root):=HV.out.2.2.2 hE hS hI
        subst hE hS hI
        clear HV
        have h10:=R1.out.2.2.1
        go_wp2_with (first
          | (refine wpList_load_row rfl 32 (.tmp 10) rfl (b7+1) rfl 32 (z00 leaf).toArray (0,0) _ h10 Tryz.underlying32 rfl (z0a l32) ?_)
          | fail)
        refine (z82 d leaf HA.out.2.1 S I a1 N c1 t W1 R1.out.2.2.2.2 (HT.out _ hb).1 (HT.out _ hb).2.1 (HT.out _ hb).2.2.2.2).mono ?_
        have hrg:=zcw (d:=d) (S:=S) (I:=I) HA.out.2.1 R1.out.2.2.2.2.1 R1.out.2.2.2.2.2.2
        generalize CLA d leaf S I N t=C at *
        obtain ⟨CE,CN,CL⟩:=C
        rintro e w2 ⟨a2,c2,rfl,hrow,hb2⟩
        dsimp only at *
        have R2:Aside (Below w.heap.size w w2∧Has w2 b7 (z00 root).toArray 32∧Flat w2 a2 CN CL):=⟨hb.trans (hb2.mono hb.size),R1.out.2.1.keep hb2,z2o hrow hrg⟩
        clear hrow hrg hb2 hb R1 y0 y1 y2 h10
        have h7:=R2.out.2.1
        go_wp2_with (first
          | (refine wpList_load_row rfl 32 (.tmp 7) rfl b7 rfl 32 (z00 root).toArray (0,0) _ h7 Tryz.underlying32 rfl (z0a r32) ?_)
          | fail)
        refine (z4d d S HA.out.2.2.1 a2 CN c2 CL root HA.out.1 w2 R2.out.2.2 (HT.out _ R2.out.1).2.1).mono ?_
        rintro e w3 ⟨rfl,hb3⟩
        have R3:Aside (Below w.heap.size w w3):=R2.out.1.trans (hb3.mono R2.out.1.size)
        clear hb3 R2 h7 HT HA
        go_wp2_with fail
        go_ret
        exact ⟨by rw [HW.out];rfl,R3.out⟩
      · have HW:Aside (U=32):=HV.out.2.2.1 hE hS hI
        have hI':¬ (I:Int)=(i:Int):=by omega
        subst hE hS
        clear HV HT HA R1
        go_wp2_with fail
        go_ret
        exact ⟨by rw [HW.out];rfl,hb⟩
    · have HW:Aside (U=30):=HV.out.2.1 hE hS
      have hS':¬ (S:Int)=(n:Int):=by omega
      subst hE
      clear HV HT HA R1
      go_wp2_with fail
      go_ret
      exact ⟨by rw [HW.out];rfl,hb⟩
  · have HW:Aside (U=E):=HV.out.1 hE
    clear HV HT HA R1 y0 y1 y2
    go_wp2_with fail
    go_ret
    exact ⟨by rw [HW.out];rfl,hb⟩
end Go.Proofs.YthjeeblddipiiaaGreatDoor

namespace Go.Proofs.YthjeeblddipiiaaGreatDoor
open Go.RowKit
set_option maxRecDepth 100000
def z1q:Array Oper:=#[⟨some 51,.move (.tmp 9),77,"verify.go:62",#[],none⟩,⟨some 52,.fieldAddr 47 (.tmp 3) 0,0,"verify.go:62",#[],none⟩,⟨some 53,.load 23 (.tmp 52),23,"verify.go:62",#[⟨1,.data⟩],none⟩,⟨some 54,.call {callee:=.value (.func 33),args:=#[.tmp 51,.tmp 53],argTypes:=#[77,23]},22,"verify.go:62",#[⟨0,.data⟩,⟨2,.data⟩],none⟩,⟨some 55,.move (.tmp 9),77,"verify.go:62",#[],none⟩,⟨some 56,.fieldAddr 47 (.tmp 3) 1,0,"verify.go:62",#[],none⟩,⟨some 57,.load 23 (.tmp 56),23,"verify.go:62",#[⟨5,.data⟩],none⟩,⟨some 58,.call {callee:=.value (.func 33),args:=#[.tmp 55,.tmp 57],argTypes:=#[77,23]},22,"verify.go:62",#[⟨4,.data⟩,⟨6,.data⟩,⟨3,.chain⟩],none⟩,⟨some 4,.assign (.tmp 54),22,"verify.go:62",#[⟨3,.data⟩,⟨7,.chain⟩,⟨0,.phase⟩,⟨1,.phase⟩,⟨2,.phase⟩,⟨3,.phase⟩,{on:=4,ground:=.textOnly Departure.lateStores},{on:=5,ground:=.textOnly Departure.lateStores},{on:=6,ground:=.textOnly Departure.lateStores},{on:=7,ground:=.textOnly Departure.lateStoresUnsure}],none⟩,⟨some 5,.assign (.tmp 58),22,"verify.go:62",#[⟨7,.data⟩,⟨8,.chain⟩,⟨0,.phase⟩,⟨1,.phase⟩,⟨2,.phase⟩,⟨3,.phase⟩,⟨4,.phase⟩,⟨5,.phase⟩,⟨6,.phase⟩,⟨7,.phase⟩,⟨8,.phase⟩],none⟩,⟨some 6,.assign (.const (.int .i64 0)),28,"verify.go:62",#[⟨9,.chain⟩,⟨0,.phase⟩,⟨1,.phase⟩,⟨2,.phase⟩,⟨3,.phase⟩,⟨4,.phase⟩,⟨5,.phase⟩,⟨6,.phase⟩,⟨7,.phase⟩,⟨8,.phase⟩,⟨9,.phase⟩],none⟩]
set_option maxHeartbeats 2000000 in
theorem z89 {Q:Exit→Act→World→Prop} (u0 u1 u2 u4 u5 u6 u7 u8 u10 u11 u12 u13 u14 u15 u16 u17 u18 u19 u20 u21 u22 u23 u24 u25 u26 u27 u28 u29 u30 u31 u32 u33 u34 u35 u36 u37 u38 u39 u40 u41 u42 u43 u44 u45 u46 u47 u48 u49 u50 u51 u52 u53 u54 u55 u56 u57 u58:Value) (W:World) (mb b3 F S:Nat) (P0:World→Prop) (P1:Value→World→Prop) (P2:Value→Value→World→Prop) (t0:∀ w,P0 w→(fun W:World=>W.cell? ⟨b3,0,none⟩=some (.int .u64 (F:Int))∧W.cell? ⟨b3,1,none⟩=some (.int .u64 (S:Int))) w) (t1:∀ X w,P1 X w→(fun W:World=>W.cell? ⟨b3,0,none⟩=some (.int .u64 (F:Int))∧W.cell? ⟨b3,1,none⟩=some (.int .u64 (S:Int))) w) (t2:∀ X Y w,P2 X Y w→(fun W:World=>W.cell? ⟨b3,0,none⟩=some (.int .u64 (F:Int))∧W.cell? ⟨b3,1,none⟩=some (.int .u64 (S:Int))) w) (c1:∀ w,P0 w→Calls Tryz.prog 33 #[.map (some mb),.int .u64 (F:Int)] w fun e w'=>∃ X,e=.returned X∧P1 X w') (c2:∀ X w,P1 X w→Calls Tryz.prog 33 #[.map (some mb),.int .u64 (S:Int)] w fun e w'=>∃ Y,e=.returned Y∧P2 X Y w') (h0:P0 W.drew) (hQ:∀ c (a:Act) (t:Tmp) (v:Value) w,Q (.panic c) (a.put (some t) v) w→Q (.panic c) a w)
    (hfin:∀ (X Y:Value) (w:World),P2 X Y w→Q .normal {tmps:=#[u0,u1,u2,.pointer (some ⟨b3,0,none⟩),X,Y,.int .i64 0,u7,u8,.map (some mb),u10,u11,u12,u13,u14,u15,u16,u17,u18,u19,u20,u21,u22,u23,u24,u25,u26,u27,u28,u29,u30,u31,u32,u33,u34,u35,u36,u37,u38,u39,u40,u41,u42,u43,u44,u45,u46,u47,u48,u49,u50,.map (some mb),.pointer (some ⟨b3,0,none⟩),.int .u64 (F:Int),X,.map (some mb),.pointer (some ⟨b3,1,none⟩),.int .u64 (S:Int),Y],defers:=[]} w):(Code.region 12 z1q true).wp Tryz.prog Q {tmps:=#[u0,u1,u2,.pointer (some ⟨b3,0,none⟩),u4,u5,u6,u7,u8,.map (some mb),u10,u11,u12,u13,u14,u15,u16,u17,u18,u19,u20,u21,u22,u23,u24,u25,u26,u27,u28,u29,u30,u31,u32,u33,u34,u35,u36,u37,u38,u39,u40,u41,u42,u43,u44,u45,u46,u47,u48,u49,u50,u51,u52,u53,u54,u55,u56,u57,u58],defers:=[]} W:=by
  have k2:∀ (X Y:Value) (w:World),P2 X Y w→wpAnyH Tryz.prog .any z1q Q (fun W:World=>W.cell? ⟨b3,0,none⟩=some (.int .u64 (F:Int))∧W.cell? ⟨b3,1,none⟩=some (.int .u64 (S:Int))) 3 #[true,true,true,true,true,true,true,true,false,false,false] {tmps:=#[u0,u1,u2,.pointer (some ⟨b3,0,none⟩),u4,u5,u6,u7,u8,.map (some mb),u10,u11,u12,u13,u14,u15,u16,u17,u18,u19,u20,u21,u22,u23,u24,u25,u26,u27,u28,u29,u30,u31,u32,u33,u34,u35,u36,u37,u38,u39,u40,u41,u42,u43,u44,u45,u46,u47,u48,u49,u50,.map (some mb),.pointer (some ⟨b3,0,none⟩),.int .u64 (F:Int),X,.map (some mb),.pointer (some ⟨b3,1,none⟩),.int .u64 (S:Int),Y],defers:=[]} w:=fun X Y w hp=>by
    have hww:(fun W:World=>W.cell? ⟨b3,0,none⟩=some (.int .u64 (F:Int))∧W.cell? ⟨b3,1,none⟩=some (.int .u64 (S:Int))) w:=t2 _ _ _ hp
    have last:wpAnyH Tryz.prog .any z1q Q (fun W:World=>W.cell? ⟨b3,0,none⟩=some (.int .u64 (F:Int))∧W.cell? ⟨b3,1,none⟩=some (.int .u64 (S:Int))) 0 #[true,true,true,true,true,true,true,true,true,true,true] {tmps:=#[u0,u1,u2,.pointer (some ⟨b3,0,none⟩),X,Y,.int .i64 0,u7,u8,.map (some mb),u10,u11,u12,u13,u14,u15,u16,u17,u18,u19,u20,u21,u22,u23,u24,u25,u26,u27,u28,u29,u30,u31,u32,u33,u34,u35,u36,u37,u38,u39,u40,u41,u42,u43,u44,u45,u46,u47,u48,u49,u50,.map (some mb),.pointer (some ⟨b3,0,none⟩),.int .u64 (F:Int),X,.map (some mb),.pointer (some ⟨b3,1,none⟩),.int .u64 (S:Int),Y],defers:=[]} w:=wpAnyH_done (by kernel_rfl) (hfin X Y w hp) _
    have t10:wpAnyH Tryz.prog .any z1q Q (fun W:World=>W.cell? ⟨b3,0,none⟩=some (.int .u64 (F:Int))∧W.cell? ⟨b3,1,none⟩=some (.int .u64 (S:Int))) 1 #[true,true,true,true,true,true,true,true,true,true,false] {tmps:=#[u0,u1,u2,.pointer (some ⟨b3,0,none⟩),X,Y,u6,u7,u8,.map (some mb),u10,u11,u12,u13,u14,u15,u16,u17,u18,u19,u20,u21,u22,u23,u24,u25,u26,u27,u28,u29,u30,u31,u32,u33,u34,u35,u36,u37,u38,u39,u40,u41,u42,u43,u44,u45,u46,u47,u48,u49,u50,.map (some mb),.pointer (some ⟨b3,0,none⟩),.int .u64 (F:Int),X,.map (some mb),.pointer (some ⟨b3,1,none⟩),.int .u64 (S:Int),Y],defers:=[]} w:=
      wpAnyH_take (i:=10) (oi:=⟨some 6,.assign (.const (.int .i64 0)),28,"verify.go:62",#[⟨9,.chain⟩,⟨0,.phase⟩,⟨1,.phase⟩,⟨2,.phase⟩,⟨3,.phase⟩,⟨4,.phase⟩,⟨5,.phase⟩,⟨6,.phase⟩,⟨7,.phase⟩,⟨8,.phase⟩,⟨9,.phase⟩],none⟩) (v:=.int .i64 0) rfl (by kernel_rfl) (by kernel_rfl) (by kernel_rfl) (fun _ _ _ h=>hQ _ _ _ _ _ h) (Yields.yieldsIf (Or.inl ⟨by rfl,fun W=>by go_simp⟩)) hww last
    have t9:wpAnyH Tryz.prog .any z1q Q (fun W:World=>W.cell? ⟨b3,0,none⟩=some (.int .u64 (F:Int))∧W.cell? ⟨b3,1,none⟩=some (.int .u64 (S:Int))) 2 #[true,true,true,true,true,true,true,true,true,false,false] {tmps:=#[u0,u1,u2,.pointer (some ⟨b3,0,none⟩),X,u5,u6,u7,u8,.map (some mb),u10,u11,u12,u13,u14,u15,u16,u17,u18,u19,u20,u21,u22,u23,u24,u25,u26,u27,u28,u29,u30,u31,u32,u33,u34,u35,u36,u37,u38,u39,u40,u41,u42,u43,u44,u45,u46,u47,u48,u49,u50,.map (some mb),.pointer (some ⟨b3,0,none⟩),.int .u64 (F:Int),X,.map (some mb),.pointer (some ⟨b3,1,none⟩),.int .u64 (S:Int),Y],defers:=[]} w:=
      wpAnyH_take (i:=9) (oi:=⟨some 5,.assign (.tmp 58),22,"verify.go:62",#[⟨7,.data⟩,⟨8,.chain⟩,⟨0,.phase⟩,⟨1,.phase⟩,⟨2,.phase⟩,⟨3,.phase⟩,⟨4,.phase⟩,⟨5,.phase⟩,⟨6,.phase⟩,⟨7,.phase⟩,⟨8,.phase⟩],none⟩) (v:=Y) rfl (by kernel_rfl) (by kernel_rfl) (by kernel_rfl) (fun _ _ _ h=>hQ _ _ _ _ _ h) (Yields.yieldsIf (Or.inl ⟨by rfl,fun W=>by go_simp⟩)) hww t10
    have t8:wpAnyH Tryz.prog .any z1q Q (fun W:World=>W.cell? ⟨b3,0,none⟩=some (.int .u64 (F:Int))∧W.cell? ⟨b3,1,none⟩=some (.int .u64 (S:Int))) 3 #[true,true,true,true,true,true,true,true,false,false,false] {tmps:=#[u0,u1,u2,.pointer (some ⟨b3,0,none⟩),u4,u5,u6,u7,u8,.map (some mb),u10,u11,u12,u13,u14,u15,u16,u17,u18,u19,u20,u21,u22,u23,u24,u25,u26,u27,u28,u29,u30,u31,u32,u33,u34,u35,u36,u37,u38,u39,u40,u41,u42,u43,u44,u45,u46,u47,u48,u49,u50,.map (some mb),.pointer (some ⟨b3,0,none⟩),.int .u64 (F:Int),X,.map (some mb),.pointer (some ⟨b3,1,none⟩),.int .u64 (S:Int),Y],defers:=[]} w:=
      wpAnyH_take (i:=8) (oi:=⟨some 4,.assign (.tmp 54),22,"verify.go:62",#[⟨3,.data⟩,⟨7,.chain⟩,⟨0,.phase⟩,⟨1,.phase⟩,⟨2,.phase⟩,⟨3,.phase⟩,{on:=4,ground:=.textOnly Departure.lateStores},{on:=5,ground:=.textOnly Departure.lateStores},{on:=6,ground:=.textOnly Departure.lateStores},{on:=7,ground:=.textOnly Departure.lateStoresUnsure}],none⟩) (v:=X) rfl (by kernel_rfl) (by kernel_rfl) (by kernel_rfl) (fun _ _ _ h=>hQ _ _ _ _ _ h) (Yields.yieldsIf (Or.inl ⟨by rfl,fun W=>by go_simp⟩)) hww t9
    exact t8
  have k1:∀ (X:Value) (w:World),P1 X w→wpAnyH Tryz.prog .any z1q Q (fun W:World=>W.cell? ⟨b3,0,none⟩=some (.int .u64 (F:Int))∧W.cell? ⟨b3,1,none⟩=some (.int .u64 (S:Int))) 4 #[true,true,true,true,true,true,true,false,false,false,false] {tmps:=#[u0,u1,u2,.pointer (some ⟨b3,0,none⟩),u4,u5,u6,u7,u8,.map (some mb),u10,u11,u12,u13,u14,u15,u16,u17,u18,u19,u20,u21,u22,u23,u24,u25,u26,u27,u28,u29,u30,u31,u32,u33,u34,u35,u36,u37,u38,u39,u40,u41,u42,u43,u44,u45,u46,u47,u48,u49,u50,.map (some mb),.pointer (some ⟨b3,0,none⟩),.int .u64 (F:Int),X,.map (some mb),.pointer (some ⟨b3,1,none⟩),.int .u64 (S:Int),u58],defers:=[]} w:=fun X w hp=>by
    have hww:(fun W:World=>W.cell? ⟨b3,0,none⟩=some (.int .u64 (F:Int))∧W.cell? ⟨b3,1,none⟩=some (.int .u64 (S:Int))) w:=t1 _ _ hp
    have last:wpAnyH Tryz.prog .any z1q Q (fun W:World=>W.cell? ⟨b3,0,none⟩=some (.int .u64 (F:Int))∧W.cell? ⟨b3,1,none⟩=some (.int .u64 (S:Int))) 4 #[true,true,true,true,true,true,true,false,false,false,false] {tmps:=#[u0,u1,u2,.pointer (some ⟨b3,0,none⟩),u4,u5,u6,u7,u8,.map (some mb),u10,u11,u12,u13,u14,u15,u16,u17,u18,u19,u20,u21,u22,u23,u24,u25,u26,u27,u28,u29,u30,u31,u32,u33,u34,u35,u36,u37,u38,u39,u40,u41,u42,u43,u44,u45,u46,u47,u48,u49,u50,.map (some mb),.pointer (some ⟨b3,0,none⟩),.int .u64 (F:Int),X,.map (some mb),.pointer (some ⟨b3,1,none⟩),.int .u64 (S:Int),u58],defers:=[]} w:=by
      refine z1d (o:=⟨some 58,.call {callee:=.value (.func 33),args:=#[.tmp 55,.tmp 57],argTypes:=#[77,23]},22,"verify.go:62",#[⟨4,.data⟩,⟨6,.data⟩,⟨3,.chain⟩],none⟩) 7 (by kernel_rfl) rfl (fun K hK=>?_)
      rw [if_pos (by rfl)]
      go_simp
      refine (c2 X w hp).mono ?_
      rintro e w' ⟨Y,rfl,hp⟩
      exact hK.out _ _ (t2 _ _ _ hp) (fun _=>k2 X Y w' hp)
    exact last
  have k0:∀ (w:World),P0 w→wpAnyH Tryz.prog .any z1q Q (fun W:World=>W.cell? ⟨b3,0,none⟩=some (.int .u64 (F:Int))∧W.cell? ⟨b3,1,none⟩=some (.int .u64 (S:Int))) 11 #[false,false,false,false,false,false,false,false,false,false,false] {tmps:=#[u0,u1,u2,.pointer (some ⟨b3,0,none⟩),u4,u5,u6,u7,u8,.map (some mb),u10,u11,u12,u13,u14,u15,u16,u17,u18,u19,u20,u21,u22,u23,u24,u25,u26,u27,u28,u29,u30,u31,u32,u33,u34,u35,u36,u37,u38,u39,u40,u41,u42,u43,u44,u45,u46,u47,u48,u49,u50,u51,u52,u53,u54,u55,u56,u57,u58],defers:=[]} w:=fun  w hp=>by
    have hww:(fun W:World=>W.cell? ⟨b3,0,none⟩=some (.int .u64 (F:Int))∧W.cell? ⟨b3,1,none⟩=some (.int .u64 (S:Int))) w:=t0 _ hp
    have last:wpAnyH Tryz.prog .any z1q Q (fun W:World=>W.cell? ⟨b3,0,none⟩=some (.int .u64 (F:Int))∧W.cell? ⟨b3,1,none⟩=some (.int .u64 (S:Int))) 5 #[true,true,true,false,true,true,true,false,false,false,false] {tmps:=#[u0,u1,u2,.pointer (some ⟨b3,0,none⟩),u4,u5,u6,u7,u8,.map (some mb),u10,u11,u12,u13,u14,u15,u16,u17,u18,u19,u20,u21,u22,u23,u24,u25,u26,u27,u28,u29,u30,u31,u32,u33,u34,u35,u36,u37,u38,u39,u40,u41,u42,u43,u44,u45,u46,u47,u48,u49,u50,.map (some mb),.pointer (some ⟨b3,0,none⟩),.int .u64 (F:Int),u54,.map (some mb),.pointer (some ⟨b3,1,none⟩),.int .u64 (S:Int),u58],defers:=[]} w:=by
      refine z1d (o:=⟨some 54,.call {callee:=.value (.func 33),args:=#[.tmp 51,.tmp 53],argTypes:=#[77,23]},22,"verify.go:62",#[⟨0,.data⟩,⟨2,.data⟩],none⟩) 3 (by kernel_rfl) rfl (fun K hK=>?_)
      rw [if_pos (by rfl)]
      go_simp
      refine (c1 w hp).mono ?_
      rintro e w' ⟨X,rfl,hp⟩
      exact hK.out _ _ (t1 _ _ hp) (fun _=>k1 X w' hp)
    have t6:wpAnyH Tryz.prog .any z1q Q (fun W:World=>W.cell? ⟨b3,0,none⟩=some (.int .u64 (F:Int))∧W.cell? ⟨b3,1,none⟩=some (.int .u64 (S:Int))) 6 #[true,true,true,false,true,true,false,false,false,false,false] {tmps:=#[u0,u1,u2,.pointer (some ⟨b3,0,none⟩),u4,u5,u6,u7,u8,.map (some mb),u10,u11,u12,u13,u14,u15,u16,u17,u18,u19,u20,u21,u22,u23,u24,u25,u26,u27,u28,u29,u30,u31,u32,u33,u34,u35,u36,u37,u38,u39,u40,u41,u42,u43,u44,u45,u46,u47,u48,u49,u50,.map (some mb),.pointer (some ⟨b3,0,none⟩),.int .u64 (F:Int),u54,.map (some mb),.pointer (some ⟨b3,1,none⟩),u57,u58],defers:=[]} w:=
      wpAnyH_take (i:=6) (oi:=⟨some 57,.load 23 (.tmp 56),23,"verify.go:62",#[⟨5,.data⟩],none⟩) (v:=.int .u64 (S:Int)) rfl (by kernel_rfl) (by kernel_rfl) (by kernel_rfl) (fun _ _ _ h=>hQ _ _ _ _ _ h) (Or.inl ⟨by rfl,fun w hw=>by have hx:=hw.2;go_simp⟩) hww last
    have t5:wpAnyH Tryz.prog .any z1q Q (fun W:World=>W.cell? ⟨b3,0,none⟩=some (.int .u64 (F:Int))∧W.cell? ⟨b3,1,none⟩=some (.int .u64 (S:Int))) 7 #[true,true,true,false,true,false,false,false,false,false,false] {tmps:=#[u0,u1,u2,.pointer (some ⟨b3,0,none⟩),u4,u5,u6,u7,u8,.map (some mb),u10,u11,u12,u13,u14,u15,u16,u17,u18,u19,u20,u21,u22,u23,u24,u25,u26,u27,u28,u29,u30,u31,u32,u33,u34,u35,u36,u37,u38,u39,u40,u41,u42,u43,u44,u45,u46,u47,u48,u49,u50,.map (some mb),.pointer (some ⟨b3,0,none⟩),.int .u64 (F:Int),u54,.map (some mb),u56,u57,u58],defers:=[]} w:=
      wpAnyH_take (i:=5) (oi:=⟨some 56,.fieldAddr 47 (.tmp 3) 1,0,"verify.go:62",#[],none⟩) (v:=.pointer (some ⟨b3,1,none⟩)) rfl (by kernel_rfl) (by kernel_rfl) (by kernel_rfl) (fun _ _ _ h=>hQ _ _ _ _ _ h) (Yields.yieldsIf (Or.inl ⟨by rfl,fun W=>by go_simp⟩)) hww t6
    have t4:wpAnyH Tryz.prog .any z1q Q (fun W:World=>W.cell? ⟨b3,0,none⟩=some (.int .u64 (F:Int))∧W.cell? ⟨b3,1,none⟩=some (.int .u64 (S:Int))) 8 #[true,true,true,false,false,false,false,false,false,false,false] {tmps:=#[u0,u1,u2,.pointer (some ⟨b3,0,none⟩),u4,u5,u6,u7,u8,.map (some mb),u10,u11,u12,u13,u14,u15,u16,u17,u18,u19,u20,u21,u22,u23,u24,u25,u26,u27,u28,u29,u30,u31,u32,u33,u34,u35,u36,u37,u38,u39,u40,u41,u42,u43,u44,u45,u46,u47,u48,u49,u50,.map (some mb),.pointer (some ⟨b3,0,none⟩),.int .u64 (F:Int),u54,u55,u56,u57,u58],defers:=[]} w:=
      wpAnyH_take (i:=4) (oi:=⟨some 55,.move (.tmp 9),77,"verify.go:62",#[],none⟩) (v:=.map (some mb)) rfl (by kernel_rfl) (by kernel_rfl) (by kernel_rfl) (fun _ _ _ h=>hQ _ _ _ _ _ h) (Yields.yieldsIf (Or.inl ⟨by rfl,fun W=>by go_simp⟩)) hww t5
    have t2:wpAnyH Tryz.prog .any z1q Q (fun W:World=>W.cell? ⟨b3,0,none⟩=some (.int .u64 (F:Int))∧W.cell? ⟨b3,1,none⟩=some (.int .u64 (S:Int))) 9 #[true,true,false,false,false,false,false,false,false,false,false] {tmps:=#[u0,u1,u2,.pointer (some ⟨b3,0,none⟩),u4,u5,u6,u7,u8,.map (some mb),u10,u11,u12,u13,u14,u15,u16,u17,u18,u19,u20,u21,u22,u23,u24,u25,u26,u27,u28,u29,u30,u31,u32,u33,u34,u35,u36,u37,u38,u39,u40,u41,u42,u43,u44,u45,u46,u47,u48,u49,u50,.map (some mb),.pointer (some ⟨b3,0,none⟩),u53,u54,u55,u56,u57,u58],defers:=[]} w:=
      wpAnyH_take (i:=2) (oi:=⟨some 53,.load 23 (.tmp 52),23,"verify.go:62",#[⟨1,.data⟩],none⟩) (v:=.int .u64 (F:Int)) rfl (by kernel_rfl) (by kernel_rfl) (by kernel_rfl) (fun _ _ _ h=>hQ _ _ _ _ _ h) (Or.inl ⟨by rfl,fun w hw=>by have hx:=hw.1;go_simp⟩) hww t4
    have t1:wpAnyH Tryz.prog .any z1q Q (fun W:World=>W.cell? ⟨b3,0,none⟩=some (.int .u64 (F:Int))∧W.cell? ⟨b3,1,none⟩=some (.int .u64 (S:Int))) 10 #[true,false,false,false,false,false,false,false,false,false,false] {tmps:=#[u0,u1,u2,.pointer (some ⟨b3,0,none⟩),u4,u5,u6,u7,u8,.map (some mb),u10,u11,u12,u13,u14,u15,u16,u17,u18,u19,u20,u21,u22,u23,u24,u25,u26,u27,u28,u29,u30,u31,u32,u33,u34,u35,u36,u37,u38,u39,u40,u41,u42,u43,u44,u45,u46,u47,u48,u49,u50,.map (some mb),u52,u53,u54,u55,u56,u57,u58],defers:=[]} w:=
      wpAnyH_take (i:=1) (oi:=⟨some 52,.fieldAddr 47 (.tmp 3) 0,0,"verify.go:62",#[],none⟩) (v:=.pointer (some ⟨b3,0,none⟩)) rfl (by kernel_rfl) (by kernel_rfl) (by kernel_rfl) (fun _ _ _ h=>hQ _ _ _ _ _ h) (Yields.yieldsIf (Or.inl ⟨by rfl,fun W=>by go_simp⟩)) hww t2
    have t0:wpAnyH Tryz.prog .any z1q Q (fun W:World=>W.cell? ⟨b3,0,none⟩=some (.int .u64 (F:Int))∧W.cell? ⟨b3,1,none⟩=some (.int .u64 (S:Int))) 11 #[false,false,false,false,false,false,false,false,false,false,false] {tmps:=#[u0,u1,u2,.pointer (some ⟨b3,0,none⟩),u4,u5,u6,u7,u8,.map (some mb),u10,u11,u12,u13,u14,u15,u16,u17,u18,u19,u20,u21,u22,u23,u24,u25,u26,u27,u28,u29,u30,u31,u32,u33,u34,u35,u36,u37,u38,u39,u40,u41,u42,u43,u44,u45,u46,u47,u48,u49,u50,u51,u52,u53,u54,u55,u56,u57,u58],defers:=[]} w:=
      wpAnyH_take (i:=0) (oi:=⟨some 51,.move (.tmp 9),77,"verify.go:62",#[],none⟩) (v:=.map (some mb)) rfl (by kernel_rfl) (by kernel_rfl) (by kernel_rfl) (fun _ _ _ h=>hQ _ _ _ _ _ h) (Yields.yieldsIf (Or.inl ⟨by rfl,fun W=>by go_simp⟩)) hww t1
    exact t0
  have hp:=h0
  exact wp_region_held_drew (S:=(fun W:World=>W.cell? ⟨b3,0,none⟩=some (.int .u64 (F:Int))∧W.cell? ⟨b3,1,none⟩=some (.int .u64 (S:Int)))) (by kernel_rfl) (t0 _ hp) (fun _=>k0 _ hp)
end Go.Proofs.YthjeeblddipiiaaGreatDoor

namespace Go.Proofs.YthjeeblddipiiaaGreatDoor
open Go.RowKit
def JF (n k:Nat):Nat→Nat→List (Nat × Nat)
  | 0,_=>[]
  | f+1,h=>if (n / 2 ^ h+1)*2 ^ h≤n+k then (h,n / 2 ^ h) :: JF n k f (h+1) else []
theorem z6R (n k:Nat):∀ f h,(JF n k f h).length≤f:=by
  intro f
  induction f with
  | zero=>intro h;exact Nat.le_refl _
  | succ f ih=>
    intro h
    unfold JF
    split
    · have:=ih (h+1)
      simp
      exact this
    · simp
def LOWS (n t:Nat):Prop:=t≤64∧(n=0→t=64)∧∀ h,h≤64→(n % 2 ^ h=0↔h≤t)
theorem zdY:LEN 4611686018427387904=63:=by decide +kernel
theorem z6d (t:Nat) (h:t≤64):wrap64 ((t:Int)+1)=((t+1:Nat):Int):=by unfold wrap64;omega
set_option maxHeartbeats 1000000 in
theorem zdZ (n k:Nat) (hnk:n+k≤4611686018427387904):∃ t,LOWS n t∧∀ w,Tabled w→0<w.heap.size→Calls Tryz.prog 41 #[.int .u64 (n:Int),.int .u64 (k:Int)] w fun e w'=>
    ∃ v,e=.returned v∧w'.ownsRow w.heap.size 81 2 v (JF n k (62 - t) (t+1)).length (z0i (JF n k (62 - t) (t+1)))∧Below w.heap.size w w':=by
  obtain ⟨t,ht,ht0,hd,cl⟩:=z9v n (by omega)
  refine ⟨t,⟨ht,ht0,hd⟩,fun w hT h0=>?_⟩
  have cl:=cl w hT
  have ch:=z4n 4611686018427387904 (by decide)
  rw [zdY] at ch
  have hsm:n<4611686018427387904∨62≤t:=by
    rcases Nat.lt_or_ge n 4611686018427387904 with h | h
    · exact .inl h
    · right
      obtain rfl:n=4611686018427387904:=by omega
      exact (hd 62 (by omega)).1 (by decide)
  have HA:Aside (n+k≤4611686018427387904∧t≤64∧(n<4611686018427387904∨62≤t)):=⟨hnk,ht,hsm⟩
  have hg1:¬ (4611686018427387904:Int)<(n:Int):=by omega
  have hg2:IntKind.u64.wrap (4611686018427387904 - (n:Int))=((4611686018427387904 - n:Nat):Int):=by rw [z0g];omega
  have hg3:¬ ((4611686018427387904 - n:Nat):Int)<(k:Int):=by omega
  obtain ⟨d,hdd⟩:∃ d,4611686018427387904 - n=d:=⟨_,rfl⟩
  rw [hdd] at hg2 hg3
  obtain ⟨t1,ht1⟩:∃ t1,t+1=t1:=⟨_,rfl⟩
  have hw:wrap64 ((t:Int)+1)=(t1:Int):=by rw [← ht1];exact z6d t ht
  have HT1:Aside (t+1=t1):=ht1
  clear hnk ht hsm hd ht0 hT h0 hdd ht1
  go_enter Tryz.func41,Tryz.ntmps41
  go_wp2_with fail
  refine cl.mono ?_
  rintro e w' ⟨rfl,rfl⟩
  clear cl
  go_wp2
  clear hw hg1 hg2 hg3
  go_loopg [5,6] (65 - t) (fun g s5 s6 wx=>∃ (h:Nat) (pre:List (Nat × Nat)),s6=.int .i64 (h:Int)∧Aside (h≤65∧g+h=66∧t+1≤h∧pre ++ JF n k (63 - h) h=JF n k (62 - t) (t+1)∧pre.length≤66∧wx.ownsRow w.heap.size 81 2 s5 pre.length (z0i pre)∧Below w.heap.size w wx))
  case atStart=>
    have h64:=HA.out.2.1
    refine ⟨t+1,[],by first | rfl | rw [z6d t h64],by omega,by omega,Nat.le_refl _,?_,by simp,World.ownsRow_nil _ _ _ _,Below.refl _ _⟩
    rw [show 63 - (t+1)=62 - t by omega]
    rfl
  case round=>
    obtain ⟨h,pre,rfl,A⟩:=hrel
    obtain ⟨r1,r2,r3,r4,r5,r6,r7⟩:=A.out
    obtain ⟨a1,a2,a3⟩:=HA.out
    by_cases hle:h≤62
    · have hle':(h:Int)≤62:=by omega
      have hN:=Node.over (i:=n) (by omega) h hle
      have ce:=fun w=>zbW h (n / 2 ^ h) hN w
      obtain ⟨f,hf⟩:∃ f,63 - h=f+1:=⟨62 - h,by omega⟩
      obtain ⟨E,hE⟩:∃ E,(n / 2 ^ h+1)*2 ^ h=E:=⟨_,rfl⟩
      obtain ⟨K,hK⟩:∃ K,n / 2 ^ h=K:=⟨_,rfl⟩
      have hJ:JF n k (63 - h) h=if E≤n+k then (h,K) :: JF n k (63 - (h+1)) (h+1) else []:=by
        rw [hf,← hE,← hK,show 63 - (h+1)=f by omega]
        rfl
      rw [hJ] at r4
      rw [hE,hK] at ce
      have e8:(h:Int) % 256=(h:Int):=by omega
      have e9:(n:Int) / 2 ^ min h 64=(K:Int):=by rw [show min h 64=h by omega,z1n,hK]
      have e9':(n:Int) / 2 ^ h=(K:Int):=by rw [z1n,hK]
      have h00:¬ (h:Int)<0:=by omega
      obtain ⟨S,hS⟩:∃ S,n+k=S:=⟨_,rfl⟩
      have hs:IntKind.u64.wrap ((n:Int)+(k:Int))=(S:Int):=by rw [z0g];omega
      rw [hS] at r4
      by_cases hES:E≤S
      · have hES':¬ (S:Int)<(E:Int):=by omega
        have hES2:¬ S<E:=by omega
        rw [if_pos hES] at r4
        have R:Aside (h+1≤65∧gk+h=66∧t+1≤h+1∧(pre ++ [(h,K)]) ++ JF n k (63 - (h+1)) (h+1)=JF n k (62 - t) (t+1)∧pre.length+1≤66∧wr.ownsRow w.heap.size 81 2 u5 pre.length (z0i pre)∧Below w.heap.size w wr∧pre.length≤1000∧wrap64 ((h:Int)+1)=((h+1:Nat):Int)):=⟨by omega,r2,by omega,by rw [← r4];simp,by have:=congrArg List.length r4;have:=z6R n k (62 - t) (t+1);simp at *;omega,r6,r7,by omega,z6d h (by omega)⟩
        clear r1 r2 r3 r4 r5 r6 r7 a1 a2 a3 hN hf hE hK hJ hS A hES hle
        go_wp2_with fail
        refine (ch _).mono ?_
        rintro e w' ⟨rfl,rfl⟩
        go_wp2_with fail
        refine (ce _).mono ?_
        rintro e w2 ⟨rfl,hb2⟩
        clear ce
        have hH:=(Has.new wr #[.int .u8 (h:Int),.int .u64 (K:Int)] 81).keep hb2
        have hz0:w2.cell? ⟨wr.heap.size,0,none⟩=some (.int .u8 (h:Int)):=hH.cell 0
        have hz1:w2.cell? ⟨wr.heap.size,1,none⟩=some (.int .u64 (K:Int)):=hH.cell 1
        have O2:Aside (Below w.heap.size w w2∧w2.ownsRow w.heap.size 81 2 u5 pre.length (z0i pre)):=by
          have r7:=R.out.2.2.2.2.2.2.1
          exact ⟨(r7.alloc r7.size _).trans (hb2.mono (Nat.le_trans r7.size (by simp))),z0k (R.out.2.2.2.2.2.1.alloc _) hb2⟩
        clear hb2 hH
        go_wp2_with (at_builtin;refine z7v _ rfl (.tmp 36) (.tmp 38) rfl w.heap.size u5 pre.length pre rfl (O2.out.2.alloc _) w2.heap.size 1 h K rfl ((Has.at _ _ _ (by simp)).cell 0) ((Has.at _ _ _ (by simp)).cell 1) R.out.2.2.2.2.2.2.2.1 (by have:=O2.out.1.size;simp;omega) ?_;intro g' cap w3 hown hgrow hg)
        go_roundg (gk - 1)
        case measure=>have:=R.out.1;have:=R.out.2.1;omega
        case rel=>
          obtain ⟨q1,q2,q3,q4,q5,q6,q7,q8,q9⟩:=R.out
          refine ⟨h+1,pre ++ [(h,K)],by first | rfl | rw [q9],q1,?_,q3,q4,by simpa using q5,by rw [List.length_append];exact hown,(O2.out.1.alloc O2.out.1.size _).grown hgrow (by have:=O2.out.1.size;simp;omega) (fun k e=>(O2.out.2.lt k e).1)⟩
          clear q9
          omega
      · have hES':(S:Int)<(E:Int):=by omega
        have hES2:S<E:=by omega
        rw [if_neg hES,List.append_nil] at r4
        have R:Aside (wr.ownsRow w.heap.size 81 2 u5 (JF n k (62 - t) (t+1)).length (z0i (JF n k (62 - t) (t+1)))∧Below w.heap.size w wr):=⟨by rw [← r4];exact r6,r7⟩
        clear r1 r2 r3 r4 r5 r6 r7 a1 a2 a3 hN hf hE hK hJ hS A hES hle
        go_wp2_with fail
        refine (ch _).mono ?_
        rintro e w' ⟨rfl,rfl⟩
        go_wp2_with fail
        refine (ce _).mono ?_
        rintro e w2 ⟨rfl,hb2⟩
        clear ce
        have O2:Aside (Below w.heap.size w w2∧w2.ownsRow w.heap.size 81 2 u5 (JF n k (62 - t) (t+1)).length (z0i (JF n k (62 - t) (t+1)))):=by
          have r7:=R.out.2
          exact ⟨(r7.alloc r7.size _).trans (hb2.mono (Nat.le_trans r7.size (by simp))),z0k (R.out.1.alloc _) hb2⟩
        clear hb2
        go_wp2
        go_ret
        exact ⟨_,rfl,O2.out.2,O2.out.1⟩
    · have hle':¬ (h:Int)≤62:=by omega
      rw [show 63 - h=0 by omega] at r4
      have r4':pre=JF n k (62 - t) (t+1):=by rw [← r4];simp [JF]
      have R:Aside (wr.ownsRow w.heap.size 81 2 u5 (JF n k (62 - t) (t+1)).length (z0i (JF n k (62 - t) (t+1)))∧Below w.heap.size w wr):=⟨by rw [← r4'];exact r6,r7⟩
      clear r1 r2 r3 r4 r5 r6 r7 a1 a2 a3 A hle r4'
      go_wp2_with fail
      refine (ch _).mono ?_
      rintro e w' ⟨rfl,rfl⟩
      go_wp2
      go_ret
      exact ⟨_,rfl,R.out.1,R.out.2⟩
end Go.Proofs.YthjeeblddipiiaaGreatDoor
