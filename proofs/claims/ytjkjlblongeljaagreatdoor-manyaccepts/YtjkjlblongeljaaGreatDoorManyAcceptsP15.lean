/- Texts of ManyAccepts, one behind the other: ManyUpRegions, ManyUp. -/
import Derived.Test.YtjkjlblongeljaaGreatDoorManyAcceptsP12
namespace Go.Proofs.YtjkjlblongeljaaGreatDoor
open Go.RowKit
set_option maxRecDepth 100000
def z2d:Array Oper:=#[⟨some 48,.load 35 (.tmp 12),35,"climb.go:45",#[],none⟩,⟨some 49,.load 35 (.tmp 13),35,"climb.go:45",#[],none⟩,⟨some 50,.move (.tmp 0),199,"climb.go:45",#[],none⟩,⟨some 51,.nilCheck (.tmp 50),0,"climb.go:45",#[⟨2,.data⟩],none⟩,⟨some 52,.fieldAddr 169 (.tmp 51) 0,0,"climb.go:45",#[⟨3,.data⟩],none⟩,⟨some 53,.load 3 (.tmp 52),3,"climb.go:45",#[⟨4,.data⟩],none⟩,⟨some 54,.load 35 (.tmp 12),35,"climb.go:45",#[],none⟩,⟨some 55,.load 35 (.tmp 13),35,"climb.go:45",#[],none⟩,⟨some 56,.call {callee:=.value (.func 31),args:=#[.tmp 53,.tmp 54,.tmp 55],argTypes:=#[3,35,35]},35,"climb.go:45",#[⟨5,.data⟩,⟨6,.data⟩,⟨7,.data⟩],none⟩,⟨some 57,.build 109 #[(0,.tmp 48),(1,.tmp 49),(2,.tmp 56)],109,"climb.go:45",#[⟨0,.data⟩,⟨1,.data⟩,⟨8,.data⟩],none⟩,⟨some 14,.alloc 109,0,"climb.go:45",#[],none⟩,⟨none,.store 109 (.tmp 14) (.tmp 57),0,"climb.go:45",#[⟨10,.data⟩,⟨9,.data⟩,⟨8,.chain⟩,⟨0,.phase⟩,⟨1,.phase⟩,⟨2,.phase⟩,⟨3,.phase⟩,⟨4,.phase⟩,⟨5,.phase⟩,⟨6,.phase⟩,⟨7,.phase⟩,⟨8,.phase⟩,⟨9,.phase⟩,⟨10,.phase⟩],none⟩]
set_option maxHeartbeats 2000000 in
theorem mup9 {Q:Exit→Act→World→Prop} {u1 u2 u3 u4 u5 u6 u7 u8 u9 u10 u11 u14 u15 u16 u17 u18 u19 u20 u21 u22 u23 u24 u25 u26 u27 u28 u29 u30 u31 u32 u33 u34 u35 u36 u37 u38 u39 u40 u41 u42 u43 u44 u45 u46 u47 u48 u49 u50 u51 u52 u53 u54 u55 u56 u57 u58 u59 u60 u61 u62 u63 u64 u65:Value} (W:World) (d:Int) (bc bl br:Nat) (A B Y:List Int) (lA:A.length=32) (lB:B.length=32) (lY:Y.length=32) (P0 P1:World→Prop) (PA PB P2:Nat→World→Prop) (h0:P0 W.drew) (t0:∀ w,P0 w→(fun w:World=>w.rangeAt bl 0 (z00 A)∧w.rangeAt br 0 (z00 B)∧w.cell? ⟨bc,0,none⟩=some (.int .i64 d)) w) (t1:∀ w,P1 w→(fun w:World=>w.rangeAt bl 0 (z00 A)∧w.rangeAt br 0 (z00 B)∧w.cell? ⟨bc,0,none⟩=some (.int .i64 d)) w) (tA:∀ b w,PA b w→(fun w:World=>w.rangeAt bl 0 (z00 A)∧w.rangeAt br 0 (z00 B)∧w.cell? ⟨bc,0,none⟩=some (.int .i64 d)) w) (tB:∀ b w,PB b w→(fun w:World=>w.rangeAt bl 0 (z00 A)∧w.rangeAt br 0 (z00 B)∧w.cell? ⟨bc,0,none⟩=some (.int .i64 d)) w) (t2:∀ b w,P2 b w→(fun w:World=>w.rangeAt bl 0 (z00 A)∧w.rangeAt br 0 (z00 B)∧w.cell? ⟨bc,0,none⟩=some (.int .i64 d)) w)
    (c0:∀ w,P0 w→Calls Tryz.prog 31 #[.int .i64 d,.agg (z00 A).toArray,.agg (z00 B).toArray] w fun e w'=>e=.returned (.agg (z00 Y).toArray)∧P1 w') (cA:∀ b w,PA b w→Calls Tryz.prog 31 #[.int .i64 d,.agg (z00 A).toArray,.agg (z00 B).toArray] w fun e w'=>e=.returned (.agg (z00 Y).toArray)∧PB b w') (a0:∀ w,P0 w→PA w.heap.size (w.alloc (.cells (MSTP ZND ZND ZND) 109))) (a1:∀ w,P1 w→PB w.heap.size (w.alloc (.cells (MSTP ZND ZND ZND) 109))) (st:∀ b w,PB b w→Has w b (MSTP ZND ZND ZND) 109) (s2:∀ b w,PB b w→P2 b (w.setRow b (MSTP A B Y))) (hQ:∀ c (a:Act) (t:Tmp) (v:Value) w,Q (.panic c) (a.put (some t) v) w→Q (.panic c) a w)
    (hfin:∀ (b14:Nat) (w:World),(P2 b14 w)→Q .normal {tmps:=#[.pointer (some ⟨bc,0,none⟩),u1,u2,u3,u4,u5,u6,u7,u8,u9,u10,u11,.pointer (some ⟨bl,0,none⟩),.pointer (some ⟨br,0,none⟩),.pointer (some ⟨b14,0,none⟩),u15,u16,u17,u18,u19,u20,u21,u22,u23,u24,u25,u26,u27,u28,u29,u30,u31,u32,u33,u34,u35,u36,u37,u38,u39,u40,u41,u42,u43,u44,u45,u46,u47,.agg (z00 A).toArray,.agg (z00 B).toArray,.pointer (some ⟨bc,0,none⟩),.pointer (some ⟨bc,0,none⟩),.pointer (some ⟨bc,0,none⟩),.int .i64 d,.agg (z00 A).toArray,.agg (z00 B).toArray,.agg (z00 Y).toArray,.agg (MSTP A B Y),u58,u59,u60,u61,u62,u63,u64,u65],defers:=[]} w):(Code.region 9 z2d true).wp Tryz.prog Q {tmps:=#[.pointer (some ⟨bc,0,none⟩),u1,u2,u3,u4,u5,u6,u7,u8,u9,u10,u11,.pointer (some ⟨bl,0,none⟩),.pointer (some ⟨br,0,none⟩),u14,u15,u16,u17,u18,u19,u20,u21,u22,u23,u24,u25,u26,u27,u28,u29,u30,u31,u32,u33,u34,u35,u36,u37,u38,u39,u40,u41,u42,u43,u44,u45,u46,u47,u48,u49,u50,u51,u52,u53,u54,u55,u56,u57,u58,u59,u60,u61,u62,u63,u64,u65],defers:=[]} W:=by
  have kst8_10_11:∀ (b14:Nat) (w:World),(P2 b14 w)→wpAnyH Tryz.prog .any z2d Q (fun w:World=>w.rangeAt bl 0 (z00 A)∧w.rangeAt br 0 (z00 B)∧w.cell? ⟨bc,0,none⟩=some (.int .i64 d)) 0 #[true,true,true,true,true,true,true,true,true,true,true,true] {tmps:=#[.pointer (some ⟨bc,0,none⟩),u1,u2,u3,u4,u5,u6,u7,u8,u9,u10,u11,.pointer (some ⟨bl,0,none⟩),.pointer (some ⟨br,0,none⟩),.pointer (some ⟨b14,0,none⟩),u15,u16,u17,u18,u19,u20,u21,u22,u23,u24,u25,u26,u27,u28,u29,u30,u31,u32,u33,u34,u35,u36,u37,u38,u39,u40,u41,u42,u43,u44,u45,u46,u47,.agg (z00 A).toArray,.agg (z00 B).toArray,.pointer (some ⟨bc,0,none⟩),.pointer (some ⟨bc,0,none⟩),.pointer (some ⟨bc,0,none⟩),.int .i64 d,.agg (z00 A).toArray,.agg (z00 B).toArray,.agg (z00 Y).toArray,.agg (MSTP A B Y),u58,u59,u60,u61,u62,u63,u64,u65],defers:=[]} w:=fun b14 w hp=>by
    exact wpAnyH_done (by kernel_rfl) (hfin b14 w hp) _
  have kst8_10:∀ (b14:Nat) (w:World),(PB b14 w)→wpAnyH Tryz.prog .any z2d Q (fun w:World=>w.rangeAt bl 0 (z00 A)∧w.rangeAt br 0 (z00 B)∧w.cell? ⟨bc,0,none⟩=some (.int .i64 d)) 1 #[true,true,true,true,true,true,true,true,true,true,true,false] {tmps:=#[.pointer (some ⟨bc,0,none⟩),u1,u2,u3,u4,u5,u6,u7,u8,u9,u10,u11,.pointer (some ⟨bl,0,none⟩),.pointer (some ⟨br,0,none⟩),.pointer (some ⟨b14,0,none⟩),u15,u16,u17,u18,u19,u20,u21,u22,u23,u24,u25,u26,u27,u28,u29,u30,u31,u32,u33,u34,u35,u36,u37,u38,u39,u40,u41,u42,u43,u44,u45,u46,u47,.agg (z00 A).toArray,.agg (z00 B).toArray,.pointer (some ⟨bc,0,none⟩),.pointer (some ⟨bc,0,none⟩),.pointer (some ⟨bc,0,none⟩),.int .i64 d,.agg (z00 A).toArray,.agg (z00 B).toArray,.agg (z00 Y).toArray,.agg (MSTP A B Y),u58,u59,u60,u61,u62,u63,u64,u65],defers:=[]} w:=fun b14 w hp=>by
    refine wpAnyH_ready (rs:=[11]) (by kernel_rfl) (by simp) ?_
    refine AllReadyH.cons (o:=⟨none,.store 109 (.tmp 14) (.tmp 57),0,"climb.go:45",#[⟨10,.data⟩,⟨9,.data⟩,⟨8,.chain⟩,⟨0,.phase⟩,⟨1,.phase⟩,⟨2,.phase⟩,⟨3,.phase⟩,⟨4,.phase⟩,⟨5,.phase⟩,⟨6,.phase⟩,⟨7,.phase⟩,⟨8,.phase⟩,⟨9,.phase⟩,⟨10,.phase⟩],none⟩) rfl (fun KQ hKQ=>?_) ?_
    · exact z0Q (by rfl) (zaF (z8L (st _ w hp) lA lB lY)) (have hp:(fun (b14:Nat) (w:World)=>(P2 b14 w)) b14 _:=s2 _ w hp;hKQ.out _ _ (t2 _ _ hp) (fun _=>kst8_10_11 b14 _ hp))
    exact AllReadyH.nil
  have kst8:∀ (w:World),(P1 w)→wpAnyH Tryz.prog .any z2d Q (fun w:World=>w.rangeAt bl 0 (z00 A)∧w.rangeAt br 0 (z00 B)∧w.cell? ⟨bc,0,none⟩=some (.int .i64 d)) 2 #[true,true,true,true,true,true,true,true,true,true,false,false] {tmps:=#[.pointer (some ⟨bc,0,none⟩),u1,u2,u3,u4,u5,u6,u7,u8,u9,u10,u11,.pointer (some ⟨bl,0,none⟩),.pointer (some ⟨br,0,none⟩),u14,u15,u16,u17,u18,u19,u20,u21,u22,u23,u24,u25,u26,u27,u28,u29,u30,u31,u32,u33,u34,u35,u36,u37,u38,u39,u40,u41,u42,u43,u44,u45,u46,u47,.agg (z00 A).toArray,.agg (z00 B).toArray,.pointer (some ⟨bc,0,none⟩),.pointer (some ⟨bc,0,none⟩),.pointer (some ⟨bc,0,none⟩),.int .i64 d,.agg (z00 A).toArray,.agg (z00 B).toArray,.agg (z00 Y).toArray,.agg (MSTP A B Y),u58,u59,u60,u61,u62,u63,u64,u65],defers:=[]} w:=fun  w hp=>by
    refine wpAnyH_ready (rs:=[10]) (by kernel_rfl) (by simp) ?_
    refine AllReadyH.cons (o:=⟨some 14,.alloc 109,0,"climb.go:45",#[],none⟩) rfl (fun KQ hKQ=>?_) ?_
    · exact z26 (by rfl) (z4T w _ rfl) (have hp:(fun (b14:Nat) (w:World)=>(PB b14 w)) w.heap.size _:=a1 w hp;hKQ.out _ _ (tB _ _ hp) (fun _=>kst8_10 w.heap.size _ hp))
    exact AllReadyH.nil
  have ekst10_8:∀ (b14:Nat) (w:World),(PB b14 w)→wpAnyH Tryz.prog .any z2d Q (fun w:World=>w.rangeAt bl 0 (z00 A)∧w.rangeAt br 0 (z00 B)∧w.cell? ⟨bc,0,none⟩=some (.int .i64 d)) 2 #[true,true,true,true,true,true,true,true,true,false,true,false] {tmps:=#[.pointer (some ⟨bc,0,none⟩),u1,u2,u3,u4,u5,u6,u7,u8,u9,u10,u11,.pointer (some ⟨bl,0,none⟩),.pointer (some ⟨br,0,none⟩),.pointer (some ⟨b14,0,none⟩),u15,u16,u17,u18,u19,u20,u21,u22,u23,u24,u25,u26,u27,u28,u29,u30,u31,u32,u33,u34,u35,u36,u37,u38,u39,u40,u41,u42,u43,u44,u45,u46,u47,.agg (z00 A).toArray,.agg (z00 B).toArray,.pointer (some ⟨bc,0,none⟩),.pointer (some ⟨bc,0,none⟩),.pointer (some ⟨bc,0,none⟩),.int .i64 d,.agg (z00 A).toArray,.agg (z00 B).toArray,.agg (z00 Y).toArray,u57,u58,u59,u60,u61,u62,u63,u64,u65],defers:=[]} w:=fun b14 w hp=>by
    have hww:(fun w:World=>w.rangeAt bl 0 (z00 A)∧w.rangeAt br 0 (z00 B)∧w.cell? ⟨bc,0,none⟩=some (.int .i64 d)) w:=tB _ _ hp
    have last:=kst8_10 b14 w hp
    refine wpAnyH_take (i:=9) (oi:=⟨some 57,.build 109 #[(0,.tmp 48),(1,.tmp 49),(2,.tmp 56)],109,"climb.go:45",#[⟨0,.data⟩,⟨1,.data⟩,⟨8,.data⟩],none⟩) (v:=.agg (MSTP A B Y)) rfl (by kernel_rfl) (by kernel_rfl) (by kernel_rfl) (fun _ _ _ h=>hQ _ _ _ _ _ h) (Or.inl ⟨by rfl,fun w _=>z4S (by rw [List.map_toArray];exact run_build (P:=Tryz.prog) w 109 _ _ (z4R A B Y lA lB lY))⟩) hww ?_
    simp only [Act.put,List.setIfInBounds_toArray,List.set_cons_zero,List.set_cons_succ]
    exact last
  have kst10:∀ (b14:Nat) (w:World),(PA b14 w)→wpAnyH Tryz.prog .any z2d Q (fun w:World=>w.rangeAt bl 0 (z00 A)∧w.rangeAt br 0 (z00 B)∧w.cell? ⟨bc,0,none⟩=some (.int .i64 d)) 3 #[true,true,true,true,true,true,true,true,false,false,true,false] {tmps:=#[.pointer (some ⟨bc,0,none⟩),u1,u2,u3,u4,u5,u6,u7,u8,u9,u10,u11,.pointer (some ⟨bl,0,none⟩),.pointer (some ⟨br,0,none⟩),.pointer (some ⟨b14,0,none⟩),u15,u16,u17,u18,u19,u20,u21,u22,u23,u24,u25,u26,u27,u28,u29,u30,u31,u32,u33,u34,u35,u36,u37,u38,u39,u40,u41,u42,u43,u44,u45,u46,u47,.agg (z00 A).toArray,.agg (z00 B).toArray,.pointer (some ⟨bc,0,none⟩),.pointer (some ⟨bc,0,none⟩),.pointer (some ⟨bc,0,none⟩),.int .i64 d,.agg (z00 A).toArray,.agg (z00 B).toArray,u56,u57,u58,u59,u60,u61,u62,u63,u64,u65],defers:=[]} w:=fun b14 w hp=>by
    refine wpAnyH_ready (rs:=[8]) (by kernel_rfl) (by simp) ?_
    refine AllReadyH.cons (o:=⟨some 56,.call {callee:=.value (.func 31),args:=#[.tmp 53,.tmp 54,.tmp 55],argTypes:=#[3,35,35]},35,"climb.go:45",#[⟨5,.data⟩,⟨6,.data⟩,⟨7,.data⟩],none⟩) rfl (fun KQ hKQ=>?_) ?_
    · rw [if_pos (by rfl)]
      go_simp
      refine (show Calls _ _ _ w (fun e w'=>e=.returned (.agg (z00 Y).toArray)∧(PB b14 w')) from cA _ w hp).mono ?_
      rintro e w' ⟨rfl,hp⟩
      exact hKQ.out _ _ (tB _ _ hp) (fun _=>ekst10_8 b14 w' hp)
    exact AllReadyH.nil
  have ekst_8:∀ (w:World),(P1 w)→wpAnyH Tryz.prog .any z2d Q (fun w:World=>w.rangeAt bl 0 (z00 A)∧w.rangeAt br 0 (z00 B)∧w.cell? ⟨bc,0,none⟩=some (.int .i64 d)) 3 #[true,true,true,true,true,true,true,true,true,false,false,false] {tmps:=#[.pointer (some ⟨bc,0,none⟩),u1,u2,u3,u4,u5,u6,u7,u8,u9,u10,u11,.pointer (some ⟨bl,0,none⟩),.pointer (some ⟨br,0,none⟩),u14,u15,u16,u17,u18,u19,u20,u21,u22,u23,u24,u25,u26,u27,u28,u29,u30,u31,u32,u33,u34,u35,u36,u37,u38,u39,u40,u41,u42,u43,u44,u45,u46,u47,.agg (z00 A).toArray,.agg (z00 B).toArray,.pointer (some ⟨bc,0,none⟩),.pointer (some ⟨bc,0,none⟩),.pointer (some ⟨bc,0,none⟩),.int .i64 d,.agg (z00 A).toArray,.agg (z00 B).toArray,.agg (z00 Y).toArray,u57,u58,u59,u60,u61,u62,u63,u64,u65],defers:=[]} w:=fun  w hp=>by
    have hww:(fun w:World=>w.rangeAt bl 0 (z00 A)∧w.rangeAt br 0 (z00 B)∧w.cell? ⟨bc,0,none⟩=some (.int .i64 d)) w:=t1 _ hp
    have last:=kst8  w hp
    refine wpAnyH_take (i:=9) (oi:=⟨some 57,.build 109 #[(0,.tmp 48),(1,.tmp 49),(2,.tmp 56)],109,"climb.go:45",#[⟨0,.data⟩,⟨1,.data⟩,⟨8,.data⟩],none⟩) (v:=.agg (MSTP A B Y)) rfl (by kernel_rfl) (by kernel_rfl) (by kernel_rfl) (fun _ _ _ h=>hQ _ _ _ _ _ h) (Or.inl ⟨by rfl,fun w _=>z4S (by rw [List.map_toArray];exact run_build (P:=Tryz.prog) w 109 _ _ (z4R A B Y lA lB lY))⟩) hww ?_
    simp only [Act.put,List.setIfInBounds_toArray,List.set_cons_zero,List.set_cons_succ]
    exact last
  have kst:∀ (w:World),(P0 w)→wpAnyH Tryz.prog .any z2d Q (fun w:World=>w.rangeAt bl 0 (z00 A)∧w.rangeAt br 0 (z00 B)∧w.cell? ⟨bc,0,none⟩=some (.int .i64 d)) 4 #[true,true,true,true,true,true,true,true,false,false,false,false] {tmps:=#[.pointer (some ⟨bc,0,none⟩),u1,u2,u3,u4,u5,u6,u7,u8,u9,u10,u11,.pointer (some ⟨bl,0,none⟩),.pointer (some ⟨br,0,none⟩),u14,u15,u16,u17,u18,u19,u20,u21,u22,u23,u24,u25,u26,u27,u28,u29,u30,u31,u32,u33,u34,u35,u36,u37,u38,u39,u40,u41,u42,u43,u44,u45,u46,u47,.agg (z00 A).toArray,.agg (z00 B).toArray,.pointer (some ⟨bc,0,none⟩),.pointer (some ⟨bc,0,none⟩),.pointer (some ⟨bc,0,none⟩),.int .i64 d,.agg (z00 A).toArray,.agg (z00 B).toArray,u56,u57,u58,u59,u60,u61,u62,u63,u64,u65],defers:=[]} w:=fun  w hp=>by
    refine wpAnyH_ready (rs:=[8,10]) (by kernel_rfl) (by simp) ?_
    refine AllReadyH.cons (o:=⟨some 56,.call {callee:=.value (.func 31),args:=#[.tmp 53,.tmp 54,.tmp 55],argTypes:=#[3,35,35]},35,"climb.go:45",#[⟨5,.data⟩,⟨6,.data⟩,⟨7,.data⟩],none⟩) rfl (fun KQ hKQ=>?_) ?_
    · rw [if_pos (by rfl)]
      go_simp
      refine (show Calls _ _ _ w (fun e w'=>e=.returned (.agg (z00 Y).toArray)∧(P1 w')) from c0 w hp).mono ?_
      rintro e w' ⟨rfl,hp⟩
      exact hKQ.out _ _ (t1 _ hp) (fun _=>ekst_8  w' hp)
    refine AllReadyH.cons (o:=⟨some 14,.alloc 109,0,"climb.go:45",#[],none⟩) rfl (fun KQ hKQ=>?_) ?_
    · exact z26 (by rfl) (z4T w _ rfl) (have hp:(fun (b14:Nat) (w:World)=>(PA b14 w)) w.heap.size _:=a0 w hp;hKQ.out _ _ (tA _ _ hp) (fun _=>kst10 w.heap.size _ hp))
    exact AllReadyH.nil
  have hp:=h0
  have hww:(fun w:World=>w.rangeAt bl 0 (z00 A)∧w.rangeAt br 0 (z00 B)∧w.cell? ⟨bc,0,none⟩=some (.int .i64 d)) W.drew:=t0 _ hp
  have last:=kst W.drew hp
  have z:wpAnyH Tryz.prog .any z2d Q (fun w:World=>w.rangeAt bl 0 (z00 A)∧w.rangeAt br 0 (z00 B)∧w.cell? ⟨bc,0,none⟩=some (.int .i64 d)) 12 #[false,false,false,false,false,false,false,false,false,false,false,false] {tmps:=#[.pointer (some ⟨bc,0,none⟩),u1,u2,u3,u4,u5,u6,u7,u8,u9,u10,u11,.pointer (some ⟨bl,0,none⟩),.pointer (some ⟨br,0,none⟩),u14,u15,u16,u17,u18,u19,u20,u21,u22,u23,u24,u25,u26,u27,u28,u29,u30,u31,u32,u33,u34,u35,u36,u37,u38,u39,u40,u41,u42,u43,u44,u45,u46,u47,u48,u49,u50,u51,u52,u53,u54,u55,u56,u57,u58,u59,u60,u61,u62,u63,u64,u65],defers:=[]} W.drew:=by
    refine wpAnyH_take (i:=0) (oi:=⟨some 48,.load 35 (.tmp 12),35,"climb.go:45",#[],none⟩) (v:=.agg (z00 A).toArray) rfl (by kernel_rfl) (by kernel_rfl) (by kernel_rfl) (fun _ _ _ h=>hQ _ _ _ _ _ h) (yieldsIf_load_mid (by rfl) 35 (.tmp 12) rfl bl 0 rfl (z00 A) _ (fun w h=>h.1) Tryz.underlying35 rfl (z0l lA)) hww ?_
    simp only [Act.put,List.setIfInBounds_toArray,List.set_cons_zero,List.set_cons_succ]
    refine wpAnyH_take (i:=1) (oi:=⟨some 49,.load 35 (.tmp 13),35,"climb.go:45",#[],none⟩) (v:=.agg (z00 B).toArray) rfl (by kernel_rfl) (by kernel_rfl) (by kernel_rfl) (fun _ _ _ h=>hQ _ _ _ _ _ h) (yieldsIf_load_mid (by rfl) 35 (.tmp 13) rfl br 0 rfl (z00 B) _ (fun w h=>h.2.1) Tryz.underlying35 rfl (z0l lB)) hww ?_
    simp only [Act.put,List.setIfInBounds_toArray,List.set_cons_zero,List.set_cons_succ]
    refine wpAnyH_take (i:=2) (oi:=⟨some 50,.move (.tmp 0),199,"climb.go:45",#[],none⟩) (v:=.pointer (some ⟨bc,0,none⟩)) rfl (by kernel_rfl) (by kernel_rfl) (by kernel_rfl) (fun _ _ _ h=>hQ _ _ _ _ _ h) (Yields.yieldsIf (Or.inl ⟨by rfl,fun W=>by go_simp⟩)) hww ?_
    simp only [Act.put,List.setIfInBounds_toArray,List.set_cons_zero,List.set_cons_succ]
    refine wpAnyH_take (i:=3) (oi:=⟨some 51,.nilCheck (.tmp 50),0,"climb.go:45",#[⟨2,.data⟩],none⟩) (v:=.pointer (some ⟨bc,0,none⟩)) rfl (by kernel_rfl) (by kernel_rfl) (by kernel_rfl) (fun _ _ _ h=>hQ _ _ _ _ _ h) (Yields.yieldsIf (Or.inl ⟨by rfl,fun W=>by go_simp⟩)) hww ?_
    simp only [Act.put,List.setIfInBounds_toArray,List.set_cons_zero,List.set_cons_succ]
    refine wpAnyH_take (i:=4) (oi:=⟨some 52,.fieldAddr 169 (.tmp 51) 0,0,"climb.go:45",#[⟨3,.data⟩],none⟩) (v:=.pointer (some ⟨bc,0,none⟩)) rfl (by kernel_rfl) (by kernel_rfl) (by kernel_rfl) (fun _ _ _ h=>hQ _ _ _ _ _ h) (Yields.yieldsIf (Or.inl ⟨by rfl,fun W=>by go_simp⟩)) hww ?_
    simp only [Act.put,List.setIfInBounds_toArray,List.set_cons_zero,List.set_cons_succ]
    refine wpAnyH_take (i:=5) (oi:=⟨some 53,.load 3 (.tmp 52),3,"climb.go:45",#[⟨4,.data⟩],none⟩) (v:=.int .i64 d) rfl (by kernel_rfl) (by kernel_rfl) (by kernel_rfl) (fun _ _ _ h=>hQ _ _ _ _ _ h) (Or.inl ⟨by rfl,fun w hw=>by have hx:=hw.2.2;go_simp⟩) hww ?_
    simp only [Act.put,List.setIfInBounds_toArray,List.set_cons_zero,List.set_cons_succ]
    refine wpAnyH_take (i:=6) (oi:=⟨some 54,.load 35 (.tmp 12),35,"climb.go:45",#[],none⟩) (v:=.agg (z00 A).toArray) rfl (by kernel_rfl) (by kernel_rfl) (by kernel_rfl) (fun _ _ _ h=>hQ _ _ _ _ _ h) (yieldsIf_load_mid (by rfl) 35 (.tmp 12) rfl bl 0 rfl (z00 A) _ (fun w h=>h.1) Tryz.underlying35 rfl (z0l lA)) hww ?_
    simp only [Act.put,List.setIfInBounds_toArray,List.set_cons_zero,List.set_cons_succ]
    refine wpAnyH_take (i:=7) (oi:=⟨some 55,.load 35 (.tmp 13),35,"climb.go:45",#[],none⟩) (v:=.agg (z00 B).toArray) rfl (by kernel_rfl) (by kernel_rfl) (by kernel_rfl) (fun _ _ _ h=>hQ _ _ _ _ _ h) (yieldsIf_load_mid (by rfl) 35 (.tmp 13) rfl br 0 rfl (z00 B) _ (fun w h=>h.2.1) Tryz.underlying35 rfl (z0l lB)) hww ?_
    simp only [Act.put,List.setIfInBounds_toArray,List.set_cons_zero,List.set_cons_succ]
    exact last
  exact wp_region_held_drew (S:=(fun w:World=>w.rangeAt bl 0 (z00 A)∧w.rangeAt br 0 (z00 B)∧w.cell? ⟨bc,0,none⟩=some (.int .i64 d))) (by kernel_rfl) hww (fun _=>z)
def z4D:Array Oper:=#[⟨some 58,.move (.tmp 0),199,"climb.go:46",#[],none⟩,⟨some 59,.nilCheck (.tmp 58),0,"climb.go:46",#[⟨0,.data⟩],none⟩,⟨some 60,.fieldAddr 169 (.tmp 59) 3,0,"climb.go:46",#[⟨1,.data⟩],none⟩,⟨some 61,.load 136 (.tmp 60),136,"climb.go:46",#[⟨2,.data⟩],none⟩,⟨some 62,.load 109 (.tmp 14),109,"climb.go:46",#[],none⟩,⟨some 63,.call {callee:=.value (.tmp 61),args:=#[.tmp 62],argTypes:=#[109]},0,"climb.go:46",#[⟨3,.data⟩,⟨4,.data⟩],none⟩]
set_option maxHeartbeats 2000000 in
theorem zgh {Q:Exit→Act→World→Prop} {u1 u2 u3 u4 u5 u6 u7 u8 u9 u10 u11 u12 u13 u15 u16 u17 u18 u19 u20 u21 u22 u23 u24 u25 u26 u27 u28 u29 u30 u31 u32 u33 u34 u35 u36 u37 u38 u39 u40 u41 u42 u43 u44 u45 u46 u47 u48 u49 u50 u51 u52 u53 u54 u55 u56 u57 u58 u59 u60 u61 u62 u63 u64 u65:Value} (W:World) (bc bs:Nat) (A B Y:List Int) (lA:A.length=32) (lB:B.length=32) (lY:Y.length=32) (P0 P1:World→Prop) (h0:P0 W.drew) (t0:∀ w,P0 w→(fun w:World=>w.rangeAt bs 0 (z00 A ++ z00 B ++ z00 Y)∧w.cell? ⟨bc,3,none⟩=some (.func (.func 92) #[] #[])) w) (t1:∀ w,P1 w→(fun w:World=>w.rangeAt bs 0 (z00 A ++ z00 B ++ z00 Y)∧w.cell? ⟨bc,3,none⟩=some (.func (.func 92) #[] #[])) w)
    (c0:∀ w,P0 w→Calls Tryz.prog 92 #[.agg (MSTP A B Y)] w fun e w'=>e=.returned (.tuple #[])∧P1 w') (hQ:∀ c (a:Act) (t:Tmp) (v:Value) w,Q (.panic c) (a.put (some t) v) w→Q (.panic c) a w)
    (hfin:∀ (w:World),(P1 w)→Q .normal {tmps:=#[.pointer (some ⟨bc,0,none⟩),u1,u2,u3,u4,u5,u6,u7,u8,u9,u10,u11,u12,u13,.pointer (some ⟨bs,0,none⟩),u15,u16,u17,u18,u19,u20,u21,u22,u23,u24,u25,u26,u27,u28,u29,u30,u31,u32,u33,u34,u35,u36,u37,u38,u39,u40,u41,u42,u43,u44,u45,u46,u47,u48,u49,u50,u51,u52,u53,u54,u55,u56,u57,.pointer (some ⟨bc,0,none⟩),.pointer (some ⟨bc,0,none⟩),.pointer (some ⟨bc,3,none⟩),.func (.func 92) #[] #[],.agg (MSTP A B Y),.tuple #[],u64,u65],defers:=[]} w):(Code.region 10 z4D true).wp Tryz.prog Q {tmps:=#[.pointer (some ⟨bc,0,none⟩),u1,u2,u3,u4,u5,u6,u7,u8,u9,u10,u11,u12,u13,.pointer (some ⟨bs,0,none⟩),u15,u16,u17,u18,u19,u20,u21,u22,u23,u24,u25,u26,u27,u28,u29,u30,u31,u32,u33,u34,u35,u36,u37,u38,u39,u40,u41,u42,u43,u44,u45,u46,u47,u48,u49,u50,u51,u52,u53,u54,u55,u56,u57,u58,u59,u60,u61,u62,u63,u64,u65],defers:=[]} W:=by
  have kst5:∀ (w:World),(P1 w)→wpAnyH Tryz.prog .any z4D Q (fun w:World=>w.rangeAt bs 0 (z00 A ++ z00 B ++ z00 Y)∧w.cell? ⟨bc,3,none⟩=some (.func (.func 92) #[] #[])) 0 #[true,true,true,true,true,true] {tmps:=#[.pointer (some ⟨bc,0,none⟩),u1,u2,u3,u4,u5,u6,u7,u8,u9,u10,u11,u12,u13,.pointer (some ⟨bs,0,none⟩),u15,u16,u17,u18,u19,u20,u21,u22,u23,u24,u25,u26,u27,u28,u29,u30,u31,u32,u33,u34,u35,u36,u37,u38,u39,u40,u41,u42,u43,u44,u45,u46,u47,u48,u49,u50,u51,u52,u53,u54,u55,u56,u57,.pointer (some ⟨bc,0,none⟩),.pointer (some ⟨bc,0,none⟩),.pointer (some ⟨bc,3,none⟩),.func (.func 92) #[] #[],.agg (MSTP A B Y),.tuple #[],u64,u65],defers:=[]} w:=fun  w hp=>by
    exact wpAnyH_done (by kernel_rfl) (hfin  w hp) _
  have kst:∀ (w:World),(P0 w)→wpAnyH Tryz.prog .any z4D Q (fun w:World=>w.rangeAt bs 0 (z00 A ++ z00 B ++ z00 Y)∧w.cell? ⟨bc,3,none⟩=some (.func (.func 92) #[] #[])) 1 #[true,true,true,true,true,false] {tmps:=#[.pointer (some ⟨bc,0,none⟩),u1,u2,u3,u4,u5,u6,u7,u8,u9,u10,u11,u12,u13,.pointer (some ⟨bs,0,none⟩),u15,u16,u17,u18,u19,u20,u21,u22,u23,u24,u25,u26,u27,u28,u29,u30,u31,u32,u33,u34,u35,u36,u37,u38,u39,u40,u41,u42,u43,u44,u45,u46,u47,u48,u49,u50,u51,u52,u53,u54,u55,u56,u57,.pointer (some ⟨bc,0,none⟩),.pointer (some ⟨bc,0,none⟩),.pointer (some ⟨bc,3,none⟩),.func (.func 92) #[] #[],.agg (MSTP A B Y),u63,u64,u65],defers:=[]} w:=fun  w hp=>by
    refine wpAnyH_ready (rs:=[5]) (by kernel_rfl) (by simp) ?_
    refine AllReadyH.cons (o:=⟨some 63,.call {callee:=.value (.tmp 61),args:=#[.tmp 62],argTypes:=#[109]},0,"climb.go:46",#[⟨3,.data⟩,⟨4,.data⟩],none⟩) rfl (fun KQ hKQ=>?_) ?_
    · rw [if_pos (by rfl)]
      go_simp
      refine (show Calls _ _ _ w (fun e w'=>e=.returned (.tuple #[])∧(P1 w')) from c0 w hp).mono ?_
      rintro e w' ⟨rfl,hp⟩
      exact hKQ.out _ _ (t1 _ hp) (fun _=>kst5  w' hp)
    exact AllReadyH.nil
  have hp:=h0
  have hww:(fun w:World=>w.rangeAt bs 0 (z00 A ++ z00 B ++ z00 Y)∧w.cell? ⟨bc,3,none⟩=some (.func (.func 92) #[] #[])) W.drew:=t0 _ hp
  have last:=kst W.drew hp
  have z:wpAnyH Tryz.prog .any z4D Q (fun w:World=>w.rangeAt bs 0 (z00 A ++ z00 B ++ z00 Y)∧w.cell? ⟨bc,3,none⟩=some (.func (.func 92) #[] #[])) 6 #[false,false,false,false,false,false] {tmps:=#[.pointer (some ⟨bc,0,none⟩),u1,u2,u3,u4,u5,u6,u7,u8,u9,u10,u11,u12,u13,.pointer (some ⟨bs,0,none⟩),u15,u16,u17,u18,u19,u20,u21,u22,u23,u24,u25,u26,u27,u28,u29,u30,u31,u32,u33,u34,u35,u36,u37,u38,u39,u40,u41,u42,u43,u44,u45,u46,u47,u48,u49,u50,u51,u52,u53,u54,u55,u56,u57,u58,u59,u60,u61,u62,u63,u64,u65],defers:=[]} W.drew:=by
    refine wpAnyH_take (i:=0) (oi:=⟨some 58,.move (.tmp 0),199,"climb.go:46",#[],none⟩) (v:=.pointer (some ⟨bc,0,none⟩)) rfl (by kernel_rfl) (by kernel_rfl) (by kernel_rfl) (fun _ _ _ h=>hQ _ _ _ _ _ h) (Yields.yieldsIf (Or.inl ⟨by rfl,fun W=>by go_simp⟩)) hww ?_
    simp only [Act.put,List.setIfInBounds_toArray,List.set_cons_zero,List.set_cons_succ]
    refine wpAnyH_take (i:=1) (oi:=⟨some 59,.nilCheck (.tmp 58),0,"climb.go:46",#[⟨0,.data⟩],none⟩) (v:=.pointer (some ⟨bc,0,none⟩)) rfl (by kernel_rfl) (by kernel_rfl) (by kernel_rfl) (fun _ _ _ h=>hQ _ _ _ _ _ h) (Yields.yieldsIf (Or.inl ⟨by rfl,fun W=>by go_simp⟩)) hww ?_
    simp only [Act.put,List.setIfInBounds_toArray,List.set_cons_zero,List.set_cons_succ]
    refine wpAnyH_take (i:=2) (oi:=⟨some 60,.fieldAddr 169 (.tmp 59) 3,0,"climb.go:46",#[⟨1,.data⟩],none⟩) (v:=.pointer (some ⟨bc,3,none⟩)) rfl (by kernel_rfl) (by kernel_rfl) (by kernel_rfl) (fun _ _ _ h=>hQ _ _ _ _ _ h) (Yields.yieldsIf (Or.inl ⟨by rfl,fun W=>by go_simp⟩)) hww ?_
    simp only [Act.put,List.setIfInBounds_toArray,List.set_cons_zero,List.set_cons_succ]
    refine wpAnyH_take (i:=3) (oi:=⟨some 61,.load 136 (.tmp 60),136,"climb.go:46",#[⟨2,.data⟩],none⟩) (v:=.func (.func 92) #[] #[]) rfl (by kernel_rfl) (by kernel_rfl) (by kernel_rfl) (fun _ _ _ h=>hQ _ _ _ _ _ h) (Or.inl ⟨by rfl,fun w hw=>by have hx:=hw.2;go_simp⟩) hww ?_
    simp only [Act.put,List.setIfInBounds_toArray,List.set_cons_zero,List.set_cons_succ]
    refine wpAnyH_take (i:=4) (oi:=⟨some 62,.load 109 (.tmp 14),109,"climb.go:46",#[],none⟩) (v:=.agg (MSTP A B Y)) rfl (by kernel_rfl) (by kernel_rfl) (by kernel_rfl) (fun _ _ _ h=>hQ _ _ _ _ _ h) (yieldsIf_load_mid (by rfl) 109 (.tmp 14) rfl bs 0 rfl (z00 A ++ z00 B ++ z00 Y) _ (fun w h=>h.1) Tryz.underlying109 rfl (z5F lA lB lY)) hww ?_
    simp only [Act.put,List.setIfInBounds_toArray,List.set_cons_zero,List.set_cons_succ]
    exact last
  exact wp_region_held_drew (S:=(fun w:World=>w.rangeAt bs 0 (z00 A ++ z00 B ++ z00 Y)∧w.cell? ⟨bc,3,none⟩=some (.func (.func 92) #[] #[]))) (by kernel_rfl) hww (fun _=>z)
end Go.Proofs.YtjkjlblongeljaaGreatDoor

namespace Go.Proofs.YtjkjlblongeljaaGreatDoor
open Go.RowKit
set_option maxRecDepth 100000
def z7c:Value:=.func (.func 92) #[] #[]
def LSH (w0:World) (bc:Nat) (v:Value) (n:Nat) (l:List Int):Prop:=∃ a c,v=.slice a n c∧n≤c∧Flat w0 a n l∧∀ x,a=some x→x.block≠bc
def CLB (w0 w:World) (bc:Nat) (d:Int) (lv nd:List Int) (i j:Nat):Prop:=(∃ vl vn,Has w bc #[.int .i64 d,vl,vn,z7c] 169∧LSH w0 bc vl i lv∧LSH w0 bc vn j nd)∧BUT bc w0 w
theorem CLB.still {w0 w w':World} {bc:Nat} {d:Int} {lv nd:List Int} {i j:Nat} (h:CLB w0 w bc d lv nd i j) (hb:Below w.heap.size w w'):CLB w0 w' bc d lv nd i j:=by
  obtain ⟨⟨vl,vn,h1,h2⟩,h3⟩:=h
  exact ⟨⟨vl,vn,h1.keep hb,h2⟩,h3.trans (BUT.of_below hb (Nat.le_of_lt h1.lt))⟩
theorem CLB.lt {w0 w:World} {bc:Nat} {d:Int} {lv nd:List Int} {i j:Nat} (h:CLB w0 w bc d lv nd i j):bc<w.heap.size:=by
  obtain ⟨⟨vl,vn,h1,h2⟩,h3⟩:=h
  exact h1.lt
theorem LSH.hss {w0:World} {bc:Nat} {v:Value} {n:Nat} {l:List Int} (h:LSH w0 bc v n l):HSS n l:=by
  obtain ⟨a,c,_,_,h,_⟩:=h
  exact ⟨h.1,h.2.2⟩
theorem LSH.rest {w0:World} {bc b o n c:Nat} {l:List Int} (hF:Flat w0 (some ⟨b,o,none⟩) n l) (hc:n≤c) (hn:0<n) (hb:b≠bc):LSH w0 bc (.slice (SLA (some ⟨b,o,none⟩) c 1) (n - 1) (c - 1)) (n - 1) (l.drop 32):=by
  refine ⟨_,_,rfl,by omega,hF.behind 1 hn hc,fun x hx=>?_⟩
  unfold SLA at hx
  dsimp only at hx
  split at hx <;> cases hx <;> exact hb
theorem zaH {w0 w:World} {bc:Nat} {d:Int} {lv nd:List Int} {i j:Nat} (h:CLB w0 w bc d lv nd i j) (hj:0<j):
    Calls Tryz.prog 147 #[.pointer (some ⟨bc,2,none⟩)] w fun e w'=>e=.returned (.agg (z00 (HSH nd 0)).toArray)∧CLB w0 w' bc d lv (nd.drop 32) i (j - 1)∧BUT bc w w':=by
  obtain ⟨⟨vl,vn,h1,h2,⟨a,c,rfl,hc,hF,ha⟩⟩,h3⟩:=h
  obtain ⟨b,o,rfl,hlt,_⟩:=hF.2.1 hj
  have hb:b≠bc:=ha _ rfl
  refine (z9I bc 2 b o j c nd _ w h1 rfl hj hc hb (hF.but h3 ha)).mono ?_
  rintro e w' ⟨rfl,q1,q2⟩
  exact ⟨rfl,⟨⟨vl,_,q1,h2,LSH.rest hF hc hj hb⟩,h3.trans q2⟩,q2⟩
theorem z8N {w0 w:World} {bc:Nat} {d:Int} {lv nd:List Int} {i j:Nat} (h:CLB w0 w bc d lv nd i j) (hi:0<i):
    Calls Tryz.prog 147 #[.pointer (some ⟨bc,1,none⟩)] w fun e w'=>e=.returned (.agg (z00 (HSH lv 0)).toArray)∧CLB w0 w' bc d (lv.drop 32) nd (i - 1) j∧BUT bc w w':=by
  obtain ⟨⟨vl,vn,h1,⟨a,c,rfl,hc,hF,ha⟩,h2⟩,h3⟩:=h
  obtain ⟨b,o,rfl,hlt,_⟩:=hF.2.1 hi
  have hb:b≠bc:=ha _ rfl
  refine (z9I bc 1 b o i c lv _ w h1 rfl hi hc hb (hF.but h3 ha)).mono ?_
  rintro e w' ⟨rfl,q1,q2⟩
  exact ⟨rfl,⟨⟨_,vn,q1,LSH.rest hF hc hi hb,h2⟩,h3.trans q2⟩,q2⟩
theorem z3o {w:World} {g:Nat} {l:List Value} {t:TypeId} (h:Has w g l.toArray t):w.rangeAt g 0 l:=fun j v hv=>by rw [Nat.zero_add,h.cell,List.getElem?_toArray];exact hv
theorem zdL (A B Y:List Int) (w:World):Calls Tryz.prog 92 #[.agg (MSTP A B Y)] w fun e w'=>e=.returned (.tuple #[])∧Below w.heap.size w w':=by
  obtain ⟨V,hV⟩:∃ V,MSTP A B Y=V:=⟨_,rfl⟩
  rw [hV]
  have hb:Aside (Below w.heap.size w (w.alloc (.cells V 109))):=(Below.refl _ _).alloc (Nat.le_refl _) _
  go_enter Tryz.func92,Tryz.ntmps92
  go_wp2_with fail
  exact bodyPost_end (v:=.tuple #[]) (by simp [results,Tryz.f92]) rfl ⟨rfl,hb.out⟩
theorem BUT.set_new {bc g:Nat} {w w':World} (h:BUT bc w w') (hg:w.heap.size≤g) (hc:bc<w.heap.size) (cs:Array Value):BUT bc w (w'.setRow g cs):=
  ⟨fun q hq hne=>(setRow_other w' g q cs (by omega)).trans (h.1 q hq hne),z06 h.2 (by omega) cs⟩
theorem CLB.set_new {w0 w:World} {bc g:Nat} {d:Int} {lv nd:List Int} {i j:Nat} (h:CLB w0 w bc d lv nd i j) (hg:w0.heap.size≤g) (hc:bc<w0.heap.size) (cs:Array Value):CLB w0 (w.setRow g cs) bc d lv nd i j:=by
  obtain ⟨⟨vl,vn,h1,h2⟩,h3⟩:=h
  exact ⟨⟨vl,vn,h1.row_other (by omega) cs,h2⟩,h3.set_new hg hc cs⟩
set_option maxHeartbeats 4000000 in
theorem z9K (w0 w:World) (bc:Nat) (d:Int) (p:Int) (lv nd:List Int) (i j c:Nat) (a:Option Addr) (hC:CLB w0 w bc d lv nd i j) (hc0:bc<w0.heap.size) (hj:0<j) (y32:(HSH nd 0).length=32):
    Calls Tryz.prog 121 #[.pointer (some ⟨bc,0,none⟩),.int .u64 p,.slice a 0 c] w fun e w'=>e=.returned (.agg (z00 (HSH nd 0)).toArray)∧CLB w0 w' bc d lv (nd.drop 32) i (j - 1)∧BUT bc w w':=by
  have hlt:=hC.lt
  have hs0:w0.heap.size≤w.heap.size:=hC.2.2.size
  obtain ⟨W0,hW0⟩:∃ W0,w.alloc (.cells ZARR 35)=W0:=⟨_,rfl⟩
  have hb0:Below w.heap.size w W0:=by rw [← hW0];exact (Below.refl _ _).alloc (Nat.le_refl _) _
  have hH0:Has W0 w.heap.size (z00 ZND).toArray 35:=by rw [← hW0,z2o];exact Has.new _ _ _
  have cn:=zaH (hC.still hb0) hj
  have HA:Aside (Below w.heap.size w W0∧Has W0 w.heap.size (z00 ZND).toArray 35∧bc<w0.heap.size∧w0.heap.size≤w.heap.size∧bc<w.heap.size):=⟨hb0,hH0,hc0,hs0,hlt⟩
  clear hC hb0 hH0 hc0 hs0 hlt hj
  generalize HSH nd 0=Y at *
  generalize nd.drop 32=nd' at *
  generalize j - 1=j' at *
  go_enter Tryz.func121,Tryz.ntmps121
  go_upto_region 2 with fail
  clear hW0
  go_wp2_with fail
  refine cn.mono ?_
  rintro e w1 ⟨rfl,q1,q2⟩
  clear cn
  have H1:Has w1 w.heap.size (z00 ZND).toArray 35:=(q2.1 _ (HA.out.2.1.lt) (by have:=HA.out.2.2.2.2;omega)).trans HA.out.2.1
  have FN:Aside (CLB w0 (w1.setRow w.heap.size (z00 Y).toArray) bc d lv nd' i j'∧BUT bc w (w1.setRow w.heap.size (z00 Y).toArray)):=
    ⟨q1.set_new HA.out.2.2.2.1 HA.out.2.2.1 _,((BUT.of_below HA.out.1 (Nat.le_of_lt HA.out.2.2.2.2)).trans q2).set_new (Nat.le_refl _) HA.out.2.2.2.2 _⟩
  clear q1 q2 HA
  go_wp2_with (refine wpList_store_row rfl 35 (.tmp 6) (.tmp 21) rfl _ _ rfl rfl 35 _ H1 (z0d y32) (by simp [z00,y32];rfl) (z0m Y) ?_)
  refine bodyPost_ret (v:=.agg (z00 Y).toArray) (z1T rfl _ _ w.heap.size 35 _ (0,0) _ _ rfl (Has.row H1 _) Tryz.underlying35 (z0d y32)) rfl ⟨rfl,FN.out⟩
set_option maxHeartbeats 4000000 in
theorem zeY (w0 w:World) (bc:Nat) (d:Int) (k:Nat) (hN:Node 0 k) (lv nd:List Int) (i j n c:Nat) (a:Option Addr) (hn:0<n) (hC:CLB w0 w bc d lv nd i j) (hc0:bc<w0.heap.size) (hi:0<i) (y32:(HSH lv 0).length=32):
    Calls Tryz.prog 121 #[.pointer (some ⟨bc,0,none⟩),.int .u64 ((PLC 0 k:Nat):Int),.slice a n c] w fun e w'=>e=.returned (.agg (z00 (HSH lv 0)).toArray)∧CLB w0 w' bc d (lv.drop 32) nd (i - 1) j∧BUT bc w w':=by
  have hlt:=hC.lt
  have hs0:w0.heap.size≤w.heap.size:=hC.2.2.size
  have hn0:((n:Int) == 0)=false:=beq_eq_false_iff_ne.2 (by omega)
  obtain ⟨W0,hW0⟩:∃ W0,w.alloc (.cells ZARR 35)=W0:=⟨_,rfl⟩
  have hb0:Below w.heap.size w W0:=by rw [← hW0];exact (Below.refl _ _).alloc (Nat.le_refl _) _
  have hH0:Has W0 w.heap.size (z00 ZND).toArray 35:=by rw [← hW0,z2o];exact Has.new _ _ _
  have ck:=z3c ((PLC 0 k:Nat):Int) k W0 (.node hN)
  have HA:Aside (Below w.heap.size w W0∧Has W0 w.heap.size (z00 ZND).toArray 35∧bc<w0.heap.size∧w0.heap.size≤w.heap.size∧bc<w.heap.size):=⟨hb0,hH0,hc0,hs0,hlt⟩
  have CN:Aside (∀ W,Below W0.heap.size W0 W→Calls Tryz.prog 147 #[.pointer (some ⟨bc,1,none⟩)] W fun e w'=>e=.returned (.agg (z00 (HSH lv 0)).toArray)∧CLB w0 w' bc d (lv.drop 32) nd (i - 1) j∧BUT bc W w'):=fun W hb=>z8N ((hC.still hb0).still hb) hi
  clear hC hb0 hH0 hc0 hs0 hlt hi hn hN
  generalize ((PLC 0 k:Nat):Int)=P at *
  generalize HSH lv 0=Y at *
  generalize lv.drop 32=lv' at *
  generalize i - 1=i' at *
  go_enter Tryz.func121,Tryz.ntmps121
  go_upto_region 3 with fail
  clear hW0
  go_wp2_with fail
  refine ck.mono ?_
  rintro e w1 ⟨rfl,h1⟩
  clear ck
  have cn:=CN.out w1 h1
  have HB:Aside (Below w.heap.size w w1∧Has w1 w.heap.size (z00 ZND).toArray 35∧bc<w0.heap.size∧w0.heap.size≤w.heap.size∧bc<w.heap.size):=⟨HA.out.1.trans (h1.mono HA.out.1.size),HA.out.2.1.keep h1,HA.out.2.2.1,HA.out.2.2.2.1,HA.out.2.2.2.2⟩
  clear HA h1 CN
  go_wp2_with fail
  refine cn.mono ?_
  rintro e w2 ⟨rfl,q1,q2⟩
  clear cn
  have H1:Has w2 w.heap.size (z00 ZND).toArray 35:=(q2.1 _ (HB.out.2.1.lt) (by have:=HB.out.2.2.2.2;omega)).trans HB.out.2.1
  have FN:Aside (CLB w0 (w2.setRow w.heap.size (z00 Y).toArray) bc d lv' nd i' j∧BUT bc w (w2.setRow w.heap.size (z00 Y).toArray)):=
    ⟨q1.set_new HB.out.2.2.2.1 HB.out.2.2.1 _,((BUT.of_below HB.out.1 (Nat.le_of_lt HB.out.2.2.2.2)).trans q2).set_new (Nat.le_refl _) HB.out.2.2.2.2 _⟩
  clear q1 q2 HB
  go_wp2_with (refine wpList_store_row rfl 35 (.tmp 6) (.tmp 33) rfl _ _ rfl rfl 35 _ H1 (z0d y32) (by simp [z00,y32];rfl) (z0m Y) ?_)
  refine bodyPost_ret (v:=.agg (z00 Y).toArray) (z1T rfl _ _ w.heap.size 35 _ (0,0) _ _ rfl (Has.row H1 _) Tryz.underlying35 (z0d y32)) rfl ⟨rfl,FN.out⟩
structure UPQ (w0 w W:World) (bc:Nat) (d:Int) (lv nd:List Int) (i j b6 bl br:Nat) (A B:List Int):Prop where
  clb:CLB w0 W bc d lv nd i j
  but:BUT bc w W
  res:Has W b6 (z00 ZND).toArray 35
  l:Has W bl (z00 A).toArray 35
  r:Has W br (z00 B).toArray 35
  n:w.heap.size=b6∧b6<bl∧bl<br∧w0.heap.size≤w.heap.size∧bc<w0.heap.size
theorem UPQ.below {w0 w W W':World} {bc:Nat} {d:Int} {lv nd:List Int} {i j b6 bl br:Nat} {A B:List Int} (h:UPQ w0 w W bc d lv nd i j b6 bl br A B) (hb:Below W.heap.size W W'):UPQ w0 w W' bc d lv nd i j b6 bl br A B:=
  ⟨h.clb.still hb,h.but.trans (BUT.of_below hb (Nat.le_of_lt h.clb.lt)),h.res.keep hb,h.l.keep hb,h.r.keep hb,h.n⟩
theorem UPQ.row {w0 w W:World} {bc:Nat} {d:Int} {lv nd:List Int} {i j b6 bl br b:Nat} {A B:List Int} (h:UPQ w0 w W bc d lv nd i j b6 bl br A B) (hb:br<b) (cs:Array Value):UPQ w0 w (W.setRow b cs) bc d lv nd i j b6 bl br A B:=by
  have hn:=h.n
  exact ⟨h.clb.set_new (by omega) (by omega) cs,h.but.set_new (by omega) (by omega) cs,h.res.row_other (by omega) cs,h.l.row_other (by omega) cs,h.r.row_other (by omega) cs,h.n⟩
theorem UPQ.s9 {w0 w W:World} {bc:Nat} {d:Int} {lv nd:List Int} {i j b6 bl br:Nat} {A B:List Int} (h:UPQ w0 w W bc d lv nd i j b6 bl br A B):W.rangeAt bl 0 (z00 A)∧W.rangeAt br 0 (z00 B)∧W.cell? ⟨bc,0,none⟩=some (.int .i64 d):=by
  obtain ⟨⟨vl,vn,h1,_⟩,_⟩:=h.clb
  exact ⟨z3o h.l,z3o h.r,h1.cell 0⟩
theorem UPQ.s10 {w0 w W:World} {bc:Nat} {d:Int} {lv nd:List Int} {i j b6 bl br b:Nat} {A B Y:List Int} (h:UPQ w0 w W bc d lv nd i j b6 bl br A B) (hs:Has W b (MSTP A B Y) 109):W.rangeAt b 0 (z00 A ++ z00 B ++ z00 Y)∧W.cell? ⟨bc,3,none⟩=some (.func (.func 92) #[] #[]):=by
  obtain ⟨⟨vl,vn,h1,_⟩,_⟩:=h.clb
  exact ⟨z3o hs,h1.cell 3⟩
theorem zc1 {W:World} {b:Nat} {A B Y:List Int} (lA:A.length=32) (lB:B.length=32) (h:Has W b (MSTP A B Y) 109):W.rangeAt b 64 (z00 Y):=fun j v hv=>by
  rw [h.cell,MSTP,List.getElem?_toArray,List.getElem?_append_right (by simp [z00,lA,lB])]
  rw [show 64+j - (z00 A ++ z00 B).length=j by simp [z00,lA,lB]]
  exact hv
end Go.Proofs.YtjkjlblongeljaaGreatDoor
