/- Texts of SpanMakes, one behind the other: SpanMakesRegion, ManyMakesError, ManyPlain, ManyPeaks, ManySetsPlain, ManySplit, ManyRise, SpanPlain. -/
import Derived.BigQuiet
import Derived.Deep.Cut
import Derived.WalkLawsBesides
import Derived.Test.YtnmalbngdhjhjaaGreatDoorSpanMakesP33
namespace Go.Proofs.YtnmalbngdhjhjaaGreatDoor
set_option linter.unusedSimpArgs false
open Go.RowKit
set_option maxRecDepth 100000
@[go_sem] def SPMKOPSq0:Oper:=⟨some 73,.move (.tmp 13),25,"law.go:89",#[],none⟩
@[go_sem] def SPMKOPSq1:Oper:=⟨some 74,.call {callee:=.value (.func 8),args:=#[.tmp 73],argTypes:=#[25]},29,"law.go:89",#[⟨0,.data⟩],none⟩
@[go_sem] def SPMKOPSq2:Oper:=⟨some 75,.move (.tmp 2),23,"law.go:89",#[],none⟩
@[go_sem] def SPMKOPSq3:Oper:=⟨some 76,.move (.tmp 17),3,"law.go:89",#[],none⟩
@[go_sem] def SPMKOPSq4:Oper:=⟨some 77,.indexAddr 23 (.tmp 75) (.tmp 76),0,"law.go:89",#[⟨2,.data⟩,⟨3,.data⟩],none⟩
@[go_sem] def SPMKOPSq5:Oper:=⟨some 78,.load 24 (.tmp 77),24,"law.go:89",#[⟨4,.data⟩],none⟩
@[go_sem] def SPMKOPSq6:Oper:=⟨some 79,.call {callee:=.value (.func 11),args:=#[.tmp 74,.tmp 78],argTypes:=#[29,24]},26,"law.go:89",#[⟨1,.data⟩,⟨5,.data⟩,⟨1,.chain⟩],none⟩
@[go_sem] def SPMKOPSq7:Oper:=⟨some 80,.move (.tmp 15),31,"law.go:89",#[],none⟩
@[go_sem] def SPMKOPSq8:Oper:=⟨some 81,.nilCheck (.tmp 80),0,"law.go:89",#[⟨7,.data⟩],none⟩
@[go_sem] def SPMKOPSq9:Oper:=⟨some 82,.fieldAddr 39 (.tmp 81) 2,0,"law.go:89",#[⟨8,.data⟩],none⟩
@[go_sem] def SPMKOPSq10:Oper:=⟨some 83,.load 37 (.tmp 82),37,"law.go:89",#[⟨9,.data⟩],none⟩
@[go_sem] def SPMKOPSq11:Oper:=⟨some 84,.move (.tmp 2),23,"law.go:89",#[],none⟩
@[go_sem] def SPMKOPSq12:Oper:=⟨some 85,.move (.tmp 17),3,"law.go:89",#[],none⟩
@[go_sem] def SPMKOPSq13:Oper:=⟨some 86,.indexAddr 23 (.tmp 84) (.tmp 85),0,"law.go:89",#[⟨11,.data⟩,⟨12,.data⟩],none⟩
@[go_sem] def SPMKOPSq14:Oper:=⟨some 87,.load 24 (.tmp 86),24,"law.go:89",#[⟨13,.data⟩],none⟩
@[go_sem] def SPMKOPSq15:Oper:=⟨some 88,.call {callee:=.value (.func 12),args:=#[.tmp 83,.tmp 87],argTypes:=#[37,24]},26,"law.go:89",#[⟨10,.data⟩,⟨14,.data⟩,⟨6,.chain⟩],none⟩
@[go_sem] def SPMKOPSq16:Oper:=⟨some 89,.binOp .neq 26 (.tmp 79) (.tmp 88) 26,4,"law.go:89",#[⟨6,.data⟩,⟨15,.data⟩],none⟩
def z6H:Array Oper:=#[SPMKOPSq0,SPMKOPSq1,SPMKOPSq2,SPMKOPSq3,SPMKOPSq4,SPMKOPSq5,SPMKOPSq6,SPMKOPSq7,SPMKOPSq8,SPMKOPSq9,SPMKOPSq10,SPMKOPSq11,SPMKOPSq12,SPMKOPSq13,SPMKOPSq14,SPMKOPSq15,SPMKOPSq16]
set_option maxHeartbeats 2000000 in
theorem zeT {Q:Exit→Act→World→Prop} {u0 u1 u3 u4 u5 u6 u7 u8 u9 u10 u11 u12 u14 u16 u18 u19 u20 u21 u22 u23 u24 u25 u26 u27 u28 u29 u30 u31 u32 u33 u34 u35 u36 u37 u38 u39 u40 u41 u42 u43 u44 u45 u46 u47 u48 u49 u50 u51 u52 u53 u54 u55 u56 u57 u58 u59 u60 u61 u62 u63 u64 u65 u66 u67 u68 u69 u70 u71 u72 u73 u74 u75 u76 u77 u78 u79 u80 u81 u82 u83 u84 u85 u86 u87 u88 u89 u90 u91 u92 u93 u94 u95 u96 u97 u98 u99 u100 u101 u102 u103 u104 u105 u106 u107 u108 u109 u110 u111 u112 u113 u114 u115 u116 u117 u118 u119 u120 u121 u122 u123 u124 u125 u126 u127 u128 u129 u130 u131 u132 u133 u134 u135 u136 u137 u138 u139 u140 u141 u142 u143 u144 u145 u146 u147 u148 u149 u150 u151 u152 u153 u154 u155 u156 u157 u158 u159 u160 u161 u162 u163 u164 u165:Value} (W:World) (g gt gs b o n c i x:Nat) (v:Int) (b1:(i:Int)<(n:Int)) (P0 P1 P2:World→Prop) (h0:P0 W.drew) (s0:∀ w,P0 w→(fun w:World=>w.cell? ⟨gt,2,none⟩=some (.pointer (some ⟨gs,0,none⟩))∧w.cell? ⟨b,o+i,none⟩=some (.int .u64 (x:Int))) w) (s1:∀ w,P1 w→(fun w:World=>w.cell? ⟨gt,2,none⟩=some (.pointer (some ⟨gs,0,none⟩))∧w.cell? ⟨b,o+i,none⟩=some (.int .u64 (x:Int))) w) (s2:∀ w,P2 w→(fun w:World=>w.cell? ⟨gt,2,none⟩=some (.pointer (some ⟨gs,0,none⟩))∧w.cell? ⟨b,o+i,none⟩=some (.int .u64 (x:Int))) w) (q0:∀ w,P0 w→Calls Tryz.prog 8 #[.pointer (some ⟨g,0,none⟩)] w fun e w'=>e=.returned (.pointer (some ⟨g,0,none⟩))∧P0 w') (q1:∀ w,P0 w→Calls Tryz.prog 11 #[.pointer (some ⟨g,0,none⟩),.int .u64 (x:Int)] w fun e w'=>e=.returned (.int .i64 v)∧P1 w') (q2:∀ w,P1 w→Calls Tryz.prog 12 #[.pointer (some ⟨gs,0,none⟩),.int .u64 (x:Int)] w fun e w'=>e=.returned (.int .i64 v)∧P2 w') (hQ:∀ c (a:Act) (t:Tmp) (v:Value) w,Q (.panic c) (a.put (some t) v) w→Q (.panic c) a w)
    (hfin:∀ (w:World),(P2 w)→Q .normal {tmps:=#[u0,u1,.slice (some ⟨b,o,none⟩) n c,u3,u4,u5,u6,u7,u8,u9,u10,u11,u12,.pointer (some ⟨g,0,none⟩),u14,.pointer (some ⟨gt,0,none⟩),u16,.int .i64 (i:Int),u18,u19,u20,u21,u22,u23,u24,u25,u26,u27,u28,u29,u30,u31,u32,u33,u34,u35,u36,u37,u38,u39,u40,u41,u42,u43,u44,u45,u46,u47,u48,u49,u50,u51,u52,u53,u54,u55,u56,u57,u58,u59,u60,u61,u62,u63,u64,u65,u66,u67,u68,u69,u70,u71,u72,.pointer (some ⟨g,0,none⟩),.pointer (some ⟨g,0,none⟩),.slice (some ⟨b,o,none⟩) n c,.int .i64 (i:Int),.pointer (some ⟨b,o+i,none⟩),.int .u64 (x:Int),.int .i64 v,.pointer (some ⟨gt,0,none⟩),.pointer (some ⟨gt,0,none⟩),.pointer (some ⟨gt,2,none⟩),.pointer (some ⟨gs,0,none⟩),.slice (some ⟨b,o,none⟩) n c,.int .i64 (i:Int),.pointer (some ⟨b,o+i,none⟩),.int .u64 (x:Int),.int .i64 v,.bool false,u90,u91,u92,u93,u94,u95,u96,u97,u98,u99,u100,u101,u102,u103,u104,u105,u106,u107,u108,u109,u110,u111,u112,u113,u114,u115,u116,u117,u118,u119,u120,u121,u122,u123,u124,u125,u126,u127,u128,u129,u130,u131,u132,u133,u134,u135,u136,u137,u138,u139,u140,u141,u142,u143,u144,u145,u146,u147,u148,u149,u150,u151,u152,u153,u154,u155,u156,u157,u158,u159,u160,u161,u162,u163,u164,u165],defers:=[]} w):(Code.region 14 z6H true).wp Tryz.prog Q {tmps:=#[u0,u1,.slice (some ⟨b,o,none⟩) n c,u3,u4,u5,u6,u7,u8,u9,u10,u11,u12,.pointer (some ⟨g,0,none⟩),u14,.pointer (some ⟨gt,0,none⟩),u16,.int .i64 (i:Int),u18,u19,u20,u21,u22,u23,u24,u25,u26,u27,u28,u29,u30,u31,u32,u33,u34,u35,u36,u37,u38,u39,u40,u41,u42,u43,u44,u45,u46,u47,u48,u49,u50,u51,u52,u53,u54,u55,u56,u57,u58,u59,u60,u61,u62,u63,u64,u65,u66,u67,u68,u69,u70,u71,u72,u73,u74,u75,u76,u77,u78,u79,u80,u81,u82,u83,u84,u85,u86,u87,u88,u89,u90,u91,u92,u93,u94,u95,u96,u97,u98,u99,u100,u101,u102,u103,u104,u105,u106,u107,u108,u109,u110,u111,u112,u113,u114,u115,u116,u117,u118,u119,u120,u121,u122,u123,u124,u125,u126,u127,u128,u129,u130,u131,u132,u133,u134,u135,u136,u137,u138,u139,u140,u141,u142,u143,u144,u145,u146,u147,u148,u149,u150,u151,u152,u153,u154,u155,u156,u157,u158,u159,u160,u161,u162,u163,u164,u165],defers:=[]} W:=by
  have kst:∀ (w:World),(P0 w)→wpAnyH Tryz.prog .any z6H Q (fun w:World=>w.cell? ⟨gt,2,none⟩=some (.pointer (some ⟨gs,0,none⟩))∧w.cell? ⟨b,o+i,none⟩=some (.int .u64 (x:Int))) 4 #[true,false,true,true,true,true,false,true,true,true,true,true,true,true,true,false,false] {tmps:=#[u0,u1,.slice (some ⟨b,o,none⟩) n c,u3,u4,u5,u6,u7,u8,u9,u10,u11,u12,.pointer (some ⟨g,0,none⟩),u14,.pointer (some ⟨gt,0,none⟩),u16,.int .i64 (i:Int),u18,u19,u20,u21,u22,u23,u24,u25,u26,u27,u28,u29,u30,u31,u32,u33,u34,u35,u36,u37,u38,u39,u40,u41,u42,u43,u44,u45,u46,u47,u48,u49,u50,u51,u52,u53,u54,u55,u56,u57,u58,u59,u60,u61,u62,u63,u64,u65,u66,u67,u68,u69,u70,u71,u72,.pointer (some ⟨g,0,none⟩),u74,.slice (some ⟨b,o,none⟩) n c,.int .i64 (i:Int),.pointer (some ⟨b,o+i,none⟩),.int .u64 (x:Int),u79,.pointer (some ⟨gt,0,none⟩),.pointer (some ⟨gt,0,none⟩),.pointer (some ⟨gt,2,none⟩),.pointer (some ⟨gs,0,none⟩),.slice (some ⟨b,o,none⟩) n c,.int .i64 (i:Int),.pointer (some ⟨b,o+i,none⟩),.int .u64 (x:Int),u88,u89,u90,u91,u92,u93,u94,u95,u96,u97,u98,u99,u100,u101,u102,u103,u104,u105,u106,u107,u108,u109,u110,u111,u112,u113,u114,u115,u116,u117,u118,u119,u120,u121,u122,u123,u124,u125,u126,u127,u128,u129,u130,u131,u132,u133,u134,u135,u136,u137,u138,u139,u140,u141,u142,u143,u144,u145,u146,u147,u148,u149,u150,u151,u152,u153,u154,u155,u156,u157,u158,u159,u160,u161,u162,u163,u164,u165],defers:=[]} w:=fun  w hp=>by
    refine wpAnyH_ready (rs:=[1]) (by kernel_rfl) (by simp) ?_
    refine AllReadyH.cons (o:=SPMKOPSq1) rfl (fun KQ hKQ=>?_) ?_
    · rw [if_pos (by rfl)]
      go_simp
      refine (show Calls _ _ _ w (fun e w'=>e=.returned (.pointer (some ⟨g,0,none⟩))∧(P0 w')) from q0 w hp).mono ?_
      rintro e w ⟨rfl,hp⟩
      refine hKQ.out _ _ (s0 _ hp) (fun _=>?_)
      simp only [List.setIfInBounds_toArray,List.set]
      refine wpAnyH_ready (rs:=[6]) (by kernel_rfl) (by simp) ?_
      refine AllReadyH.cons (o:=SPMKOPSq6) rfl (fun KQ hKQ=>?_) ?_
      · rw [if_pos (by rfl)]
        go_simp
        refine (show Calls _ _ _ w (fun e w'=>e=.returned (.int .i64 v)∧(P1 w')) from q1 w hp).mono ?_
        rintro e w ⟨rfl,hp⟩
        refine hKQ.out _ _ (s1 _ hp) (fun _=>?_)
        simp only [List.setIfInBounds_toArray,List.set]
        refine wpAnyH_ready (rs:=[15]) (by kernel_rfl) (by simp) ?_
        refine AllReadyH.cons (o:=SPMKOPSq15) rfl (fun KQ hKQ=>?_) ?_
        · rw [if_pos (by rfl)]
          go_simp
          refine (show Calls _ _ _ w (fun e w'=>e=.returned (.int .i64 v)∧(P2 w')) from q2 w hp).mono ?_
          rintro e w ⟨rfl,hp⟩
          refine hKQ.out _ _ (s2 _ hp) (fun _=>?_)
          simp only [List.setIfInBounds_toArray,List.set]
          have hww:(fun w:World=>w.cell? ⟨gt,2,none⟩=some (.pointer (some ⟨gs,0,none⟩))∧w.cell? ⟨b,o+i,none⟩=some (.int .u64 (x:Int))) w:=s2 _ hp
          refine tkP SPMKOPSq16 (.bool false) 16 hQ hww ?_
          simp only [List.set]
          exact wpAnyH_done (by kernel_rfl) (hfin  w hp) _
        exact AllReadyH.nil
      exact AllReadyH.nil
    exact AllReadyH.nil
  have hp:=h0
  have hww:(fun w:World=>w.cell? ⟨gt,2,none⟩=some (.pointer (some ⟨gs,0,none⟩))∧w.cell? ⟨b,o+i,none⟩=some (.int .u64 (x:Int))) W.drew:=s0 _ hp
  have last:=kst W.drew hp
  have z:wpAnyH Tryz.prog .any z6H Q (fun w:World=>w.cell? ⟨gt,2,none⟩=some (.pointer (some ⟨gs,0,none⟩))∧w.cell? ⟨b,o+i,none⟩=some (.int .u64 (x:Int))) 17 #[false,false,false,false,false,false,false,false,false,false,false,false,false,false,false,false,false] {tmps:=#[u0,u1,.slice (some ⟨b,o,none⟩) n c,u3,u4,u5,u6,u7,u8,u9,u10,u11,u12,.pointer (some ⟨g,0,none⟩),u14,.pointer (some ⟨gt,0,none⟩),u16,.int .i64 (i:Int),u18,u19,u20,u21,u22,u23,u24,u25,u26,u27,u28,u29,u30,u31,u32,u33,u34,u35,u36,u37,u38,u39,u40,u41,u42,u43,u44,u45,u46,u47,u48,u49,u50,u51,u52,u53,u54,u55,u56,u57,u58,u59,u60,u61,u62,u63,u64,u65,u66,u67,u68,u69,u70,u71,u72,u73,u74,u75,u76,u77,u78,u79,u80,u81,u82,u83,u84,u85,u86,u87,u88,u89,u90,u91,u92,u93,u94,u95,u96,u97,u98,u99,u100,u101,u102,u103,u104,u105,u106,u107,u108,u109,u110,u111,u112,u113,u114,u115,u116,u117,u118,u119,u120,u121,u122,u123,u124,u125,u126,u127,u128,u129,u130,u131,u132,u133,u134,u135,u136,u137,u138,u139,u140,u141,u142,u143,u144,u145,u146,u147,u148,u149,u150,u151,u152,u153,u154,u155,u156,u157,u158,u159,u160,u161,u162,u163,u164,u165],defers:=[]} W.drew:=by
    refine tkP SPMKOPSq0 (.pointer (some ⟨g,0,none⟩)) 0 hQ hww ?_
    simp only [List.set]
    refine tkP SPMKOPSq2 (.slice (some ⟨b,o,none⟩) n c) 2 hQ hww ?_
    simp only [List.set]
    refine tkP SPMKOPSq3 (.int .i64 (i:Int)) 3 hQ hww ?_
    simp only [List.set]
    refine tkH SPMKOPSq4 (.pointer (some ⟨b,o+i,none⟩)) 4 hQ (Or.inl ⟨by rfl,fun w hw=>by have hx:=b1;go_simp⟩) hww ?_
    simp only [List.set]
    refine tkH SPMKOPSq5 (.int .u64 (x:Int)) 5 hQ (Or.inl ⟨by rfl,fun w hw=>by have hx:=hw.2;go_simp⟩) hww ?_
    simp only [List.set]
    refine tkP SPMKOPSq7 (.pointer (some ⟨gt,0,none⟩)) 7 hQ hww ?_
    simp only [List.set]
    refine tkP SPMKOPSq8 (.pointer (some ⟨gt,0,none⟩)) 8 hQ hww ?_
    simp only [List.set]
    refine tkP SPMKOPSq9 (.pointer (some ⟨gt,2,none⟩)) 9 hQ hww ?_
    simp only [List.set]
    refine tkH SPMKOPSq10 (.pointer (some ⟨gs,0,none⟩)) 10 hQ (Or.inl ⟨by rfl,fun w hw=>by have hx:=hw.1;go_simp⟩) hww ?_
    simp only [List.set]
    refine tkP SPMKOPSq11 (.slice (some ⟨b,o,none⟩) n c) 11 hQ hww ?_
    simp only [List.set]
    refine tkP SPMKOPSq12 (.int .i64 (i:Int)) 12 hQ hww ?_
    simp only [List.set]
    refine tkH SPMKOPSq13 (.pointer (some ⟨b,o+i,none⟩)) 13 hQ (Or.inl ⟨by rfl,fun w hw=>by have hx:=b1;go_simp⟩) hww ?_
    simp only [List.set]
    refine tkH SPMKOPSq14 (.int .u64 (x:Int)) 14 hQ (Or.inl ⟨by rfl,fun w hw=>by have hx:=hw.2;go_simp⟩) hww ?_
    simp only [List.set]
    exact last
  exact wp_region_held_drew (S:=(fun w:World=>w.cell? ⟨gt,2,none⟩=some (.pointer (some ⟨gs,0,none⟩))∧w.cell? ⟨b,o+i,none⟩=some (.int .u64 (x:Int)))) (by kernel_rfl) hww (fun _=>z)
@[go_sem] def SPMQOPSq0:Oper:=⟨some 151,.fieldAddr 43 (.tmp 22) 3,0,"law.go:107",#[],none⟩
@[go_sem] def SPMQOPSq1:Oper:=⟨some 152,.load 22 (.tmp 151),22,"law.go:107",#[⟨0,.data⟩],none⟩
@[go_sem] def SPMQOPSq2:Oper:=⟨some 153,.call {callee:=.value (.func 17),args:=#[.tmp 152,.const (.int .u8 201)],argTypes:=#[22,5]},22,"law.go:107",#[⟨1,.data⟩],none⟩
@[go_sem] def SPMQOPSq3:Oper:=⟨some 154,.fieldAddr 43 (.tmp 24) 3,0,"law.go:107",#[],none⟩
@[go_sem] def SPMQOPSq4:Oper:=⟨some 155,.load 22 (.tmp 154),22,"law.go:107",#[⟨3,.data⟩],none⟩
@[go_sem] def SPMQOPSq5:Oper:=⟨some 156,.call {callee:=.value (.func 17),args:=#[.tmp 155,.const (.int .u8 202)],argTypes:=#[22,5]},22,"law.go:107",#[⟨4,.data⟩,⟨2,.chain⟩],none⟩
@[go_sem] def SPMQOPSq6:Oper:=⟨some 26,.assign (.tmp 153),22,"law.go:107",#[⟨2,.data⟩,⟨5,.chain⟩,⟨0,.phase⟩,⟨1,.phase⟩,⟨2,.phase⟩,{on:=3,ground:=.textOnly Departure.lateStores},{on:=4,ground:=.textOnly Departure.lateStores},{on:=5,ground:=.textOnly Departure.lateStoresUnsure}],none⟩
@[go_sem] def SPMQOPSq7:Oper:=⟨some 27,.assign (.tmp 156),22,"law.go:107",#[⟨5,.data⟩,⟨6,.chain⟩,⟨0,.phase⟩,⟨1,.phase⟩,⟨2,.phase⟩,⟨3,.phase⟩,⟨4,.phase⟩,⟨5,.phase⟩,⟨6,.phase⟩],none⟩
def z6I:Array Oper:=#[SPMQOPSq0,SPMQOPSq1,SPMQOPSq2,SPMQOPSq3,SPMQOPSq4,SPMQOPSq5,SPMQOPSq6,SPMQOPSq7]
set_option maxHeartbeats 2000000 in
theorem z5D {Q:Exit→Act→World→Prop} {u0 u1 u2 u3 u4 u5 u6 u7 u8 u9 u10 u11 u12 u13 u14 u15 u16 u17 u18 u19 u20 u21 u23 u25 u26 u27 u28 u29 u30 u31 u32 u33 u34 u35 u36 u37 u38 u39 u40 u41 u42 u43 u44 u45 u46 u47 u48 u49 u50 u51 u52 u53 u54 u55 u56 u57 u58 u59 u60 u61 u62 u63 u64 u65 u66 u67 u68 u69 u70 u71 u72 u73 u74 u75 u76 u77 u78 u79 u80 u81 u82 u83 u84 u85 u86 u87 u88 u89 u90 u91 u92 u93 u94 u95 u96 u97 u98 u99 u100 u101 u102 u103 u104 u105 u106 u107 u108 u109 u110 u111 u112 u113 u114 u115 u116 u117 u118 u119 u120 u121 u122 u123 u124 u125 u126 u127 u128 u129 u130 u131 u132 u133 u134 u135 u136 u137 u138 u139 u140 u141 u142 u143 u144 u145 u146 u147 u148 u149 u150 u151 u152 u153 u154 u155 u156 u157 u158 u159 u160 u161 u162 u163 u164 u165:Value} (W:World) (b1 b2 n c1 c2:Nat) (a1 a2:Option Addr) (P0:World→Prop) (P1:Nat→Nat→World→Prop) (P2:Nat→Nat→Nat→Nat→World→Prop) (h0:P0 W.drew) (t0:∀ w,P0 w→(fun w:World=>w.cell? ⟨b1,3,none⟩=some (.slice a1 n c1)∧w.cell? ⟨b2,3,none⟩=some (.slice a2 n c2)) w) (t1:∀ g q w,P1 g q w→(fun w:World=>w.cell? ⟨b1,3,none⟩=some (.slice a1 n c1)∧w.cell? ⟨b2,3,none⟩=some (.slice a2 n c2)) w) (t2:∀ g q g2 q2 w,P2 g q g2 q2 w→(fun w:World=>w.cell? ⟨b1,3,none⟩=some (.slice a1 n c1)∧w.cell? ⟨b2,3,none⟩=some (.slice a2 n c2)) w)
    (k1:∀ w,P0 w→Calls Tryz.prog 17 #[.slice a1 n c1,.int .u8 201] w fun e w'=>∃ g1 q1,e=.returned (.slice (some ⟨g1,0,none⟩) (n+1+1) q1)∧P1 g1 q1 w') (k2:∀ g1 q1 w,P1 g1 q1 w→Calls Tryz.prog 17 #[.slice a2 n c2,.int .u8 202] w fun e w'=>∃ g2 q2,e=.returned (.slice (some ⟨g2,0,none⟩) (n+1+1) q2)∧P2 g1 q1 g2 q2 w') (hQ:∀ c (a:Act) (t:Tmp) (v:Value) w,Q (.panic c) (a.put (some t) v) w→Q (.panic c) a w)
    (hfin:∀ (g1:Nat) (q1:Nat) (g2:Nat) (q2:Nat) (w:World),(P2 g1 q1 g2 q2 w)→Q .normal {tmps:=#[u0,u1,u2,u3,u4,u5,u6,u7,u8,u9,u10,u11,u12,u13,u14,u15,u16,u17,u18,u19,u20,u21,.pointer (some ⟨b1,0,none⟩),u23,.pointer (some ⟨b2,0,none⟩),u25,.slice (some ⟨g1,0,none⟩) (n+1+1) q1,.slice (some ⟨g2,0,none⟩) (n+1+1) q2,u28,u29,u30,u31,u32,u33,u34,u35,u36,u37,u38,u39,u40,u41,u42,u43,u44,u45,u46,u47,u48,u49,u50,u51,u52,u53,u54,u55,u56,u57,u58,u59,u60,u61,u62,u63,u64,u65,u66,u67,u68,u69,u70,u71,u72,u73,u74,u75,u76,u77,u78,u79,u80,u81,u82,u83,u84,u85,u86,u87,u88,u89,u90,u91,u92,u93,u94,u95,u96,u97,u98,u99,u100,u101,u102,u103,u104,u105,u106,u107,u108,u109,u110,u111,u112,u113,u114,u115,u116,u117,u118,u119,u120,u121,u122,u123,u124,u125,u126,u127,u128,u129,u130,u131,u132,u133,u134,u135,u136,u137,u138,u139,u140,u141,u142,u143,u144,u145,u146,u147,u148,u149,u150,.pointer (some ⟨b1,3,none⟩),.slice a1 n c1,.slice (some ⟨g1,0,none⟩) (n+1+1) q1,.pointer (some ⟨b2,3,none⟩),.slice a2 n c2,.slice (some ⟨g2,0,none⟩) (n+1+1) q2,u157,u158,u159,u160,u161,u162,u163,u164,u165],defers:=[]} w):(Code.region 27 z6I true).wp Tryz.prog Q {tmps:=#[u0,u1,u2,u3,u4,u5,u6,u7,u8,u9,u10,u11,u12,u13,u14,u15,u16,u17,u18,u19,u20,u21,.pointer (some ⟨b1,0,none⟩),u23,.pointer (some ⟨b2,0,none⟩),u25,u26,u27,u28,u29,u30,u31,u32,u33,u34,u35,u36,u37,u38,u39,u40,u41,u42,u43,u44,u45,u46,u47,u48,u49,u50,u51,u52,u53,u54,u55,u56,u57,u58,u59,u60,u61,u62,u63,u64,u65,u66,u67,u68,u69,u70,u71,u72,u73,u74,u75,u76,u77,u78,u79,u80,u81,u82,u83,u84,u85,u86,u87,u88,u89,u90,u91,u92,u93,u94,u95,u96,u97,u98,u99,u100,u101,u102,u103,u104,u105,u106,u107,u108,u109,u110,u111,u112,u113,u114,u115,u116,u117,u118,u119,u120,u121,u122,u123,u124,u125,u126,u127,u128,u129,u130,u131,u132,u133,u134,u135,u136,u137,u138,u139,u140,u141,u142,u143,u144,u145,u146,u147,u148,u149,u150,u151,u152,u153,u154,u155,u156,u157,u158,u159,u160,u161,u162,u163,u164,u165],defers:=[]} W:=by
  have kst:∀ (w:World),(P0 w)→wpAnyH Tryz.prog .any z6I Q (fun w:World=>w.cell? ⟨b1,3,none⟩=some (.slice a1 n c1)∧w.cell? ⟨b2,3,none⟩=some (.slice a2 n c2)) 4 #[true,true,false,true,true,false,false,false] {tmps:=#[u0,u1,u2,u3,u4,u5,u6,u7,u8,u9,u10,u11,u12,u13,u14,u15,u16,u17,u18,u19,u20,u21,.pointer (some ⟨b1,0,none⟩),u23,.pointer (some ⟨b2,0,none⟩),u25,u26,u27,u28,u29,u30,u31,u32,u33,u34,u35,u36,u37,u38,u39,u40,u41,u42,u43,u44,u45,u46,u47,u48,u49,u50,u51,u52,u53,u54,u55,u56,u57,u58,u59,u60,u61,u62,u63,u64,u65,u66,u67,u68,u69,u70,u71,u72,u73,u74,u75,u76,u77,u78,u79,u80,u81,u82,u83,u84,u85,u86,u87,u88,u89,u90,u91,u92,u93,u94,u95,u96,u97,u98,u99,u100,u101,u102,u103,u104,u105,u106,u107,u108,u109,u110,u111,u112,u113,u114,u115,u116,u117,u118,u119,u120,u121,u122,u123,u124,u125,u126,u127,u128,u129,u130,u131,u132,u133,u134,u135,u136,u137,u138,u139,u140,u141,u142,u143,u144,u145,u146,u147,u148,u149,u150,.pointer (some ⟨b1,3,none⟩),.slice a1 n c1,u153,.pointer (some ⟨b2,3,none⟩),.slice a2 n c2,u156,u157,u158,u159,u160,u161,u162,u163,u164,u165],defers:=[]} w:=fun  w hp=>by
    refine wpAnyH_ready (rs:=[2]) (by kernel_rfl) (by simp) ?_
    refine AllReadyH.cons (o:=SPMQOPSq2) rfl (fun KQ hKQ=>?_) ?_
    · rw [if_pos (by rfl)]
      go_simp
      refine (show Calls _ _ _ w (fun e w'=>∃ (g1:Nat) (q1:Nat),e=.returned (.slice (some ⟨g1,0,none⟩) (n+1+1) q1)∧(P1 g1 q1 w')) from k1 w hp).mono ?_
      rintro e w ⟨g1,q1,rfl,hp⟩
      refine hKQ.out _ _ (t1 _ _ _ hp) (fun _=>?_)
      simp only [List.setIfInBounds_toArray,List.set]
      refine wpAnyH_ready (rs:=[5]) (by kernel_rfl) (by simp) ?_
      refine AllReadyH.cons (o:=SPMQOPSq5) rfl (fun KQ hKQ=>?_) ?_
      · rw [if_pos (by rfl)]
        go_simp
        refine (show Calls _ _ _ w (fun e w'=>∃ (g2:Nat) (q2:Nat),e=.returned (.slice (some ⟨g2,0,none⟩) (n+1+1) q2)∧(P2 g1 q1 g2 q2 w')) from k2 _ _ w hp).mono ?_
        rintro e w ⟨g2,q2,rfl,hp⟩
        refine hKQ.out _ _ (t2 _ _ _ _ _ hp) (fun _=>?_)
        simp only [List.setIfInBounds_toArray,List.set]
        have hww:(fun w:World=>w.cell? ⟨b1,3,none⟩=some (.slice a1 n c1)∧w.cell? ⟨b2,3,none⟩=some (.slice a2 n c2)) w:=t2 _ _ _ _ _ hp
        refine tkP SPMQOPSq6 (.slice (some ⟨g1,0,none⟩) (n+1+1) q1) 6 hQ hww ?_
        simp only [List.set]
        refine tkP SPMQOPSq7 (.slice (some ⟨g2,0,none⟩) (n+1+1) q2) 7 hQ hww ?_
        simp only [List.set]
        exact wpAnyH_done (by kernel_rfl) (hfin g1 q1 g2 q2 w hp) _
      exact AllReadyH.nil
    exact AllReadyH.nil
  have hp:=h0
  have hww:(fun w:World=>w.cell? ⟨b1,3,none⟩=some (.slice a1 n c1)∧w.cell? ⟨b2,3,none⟩=some (.slice a2 n c2)) W.drew:=t0 _ hp
  have last:=kst W.drew hp
  have z:wpAnyH Tryz.prog .any z6I Q (fun w:World=>w.cell? ⟨b1,3,none⟩=some (.slice a1 n c1)∧w.cell? ⟨b2,3,none⟩=some (.slice a2 n c2)) 8 #[false,false,false,false,false,false,false,false] {tmps:=#[u0,u1,u2,u3,u4,u5,u6,u7,u8,u9,u10,u11,u12,u13,u14,u15,u16,u17,u18,u19,u20,u21,.pointer (some ⟨b1,0,none⟩),u23,.pointer (some ⟨b2,0,none⟩),u25,u26,u27,u28,u29,u30,u31,u32,u33,u34,u35,u36,u37,u38,u39,u40,u41,u42,u43,u44,u45,u46,u47,u48,u49,u50,u51,u52,u53,u54,u55,u56,u57,u58,u59,u60,u61,u62,u63,u64,u65,u66,u67,u68,u69,u70,u71,u72,u73,u74,u75,u76,u77,u78,u79,u80,u81,u82,u83,u84,u85,u86,u87,u88,u89,u90,u91,u92,u93,u94,u95,u96,u97,u98,u99,u100,u101,u102,u103,u104,u105,u106,u107,u108,u109,u110,u111,u112,u113,u114,u115,u116,u117,u118,u119,u120,u121,u122,u123,u124,u125,u126,u127,u128,u129,u130,u131,u132,u133,u134,u135,u136,u137,u138,u139,u140,u141,u142,u143,u144,u145,u146,u147,u148,u149,u150,u151,u152,u153,u154,u155,u156,u157,u158,u159,u160,u161,u162,u163,u164,u165],defers:=[]} W.drew:=by
    refine tkP SPMQOPSq0 (.pointer (some ⟨b1,3,none⟩)) 0 hQ hww ?_
    simp only [List.set]
    refine tkH SPMQOPSq1 (.slice a1 n c1) 1 hQ (Or.inl ⟨by rfl,fun w hw=>by have hx:=hw.1;go_simp⟩) hww ?_
    simp only [List.set]
    refine tkP SPMQOPSq3 (.pointer (some ⟨b2,3,none⟩)) 3 hQ hww ?_
    simp only [List.set]
    refine tkH SPMQOPSq4 (.slice a2 n c2) 4 hQ (Or.inl ⟨by rfl,fun w hw=>by have hx:=hw.2;go_simp⟩) hww ?_
    simp only [List.set]
    exact last
  exact wp_region_held_drew (S:=(fun w:World=>w.cell? ⟨b1,3,none⟩=some (.slice a1 n c1)∧w.cell? ⟨b2,3,none⟩=some (.slice a2 n c2))) (by kernel_rfl) hww (fun _=>z)
end Go.Proofs.YtnmalbngdhjhjaaGreatDoor

namespace Go.Proofs.YtnmalbngdhjhjaaGreatDoor
open Go.RowKit
set_option maxRecDepth 100000
def FSTE (EN:Nat→Int):List Nat→Int
  | []=>0
  | p :: P=>if EN p=0 then FSTE EN P else EN p
theorem z4I {EN:Nat→Int}:∀ {P:List Nat},(∀ p∈P,EN p=0)→FSTE EN P=0
  | [],_=>rfl
  | p :: P,h=>by rw [FSTE,if_pos (h p (List.mem_cons_self ..))];exact z4I fun q hq=>h q (List.mem_cons_of_mem _ hq)
theorem z4X {EN:Nat→Int}:∀ {P:List Nat} {j p:Nat},P[j]?=some p→(∀ (i q:Nat),i<j→P[i]?=some q→EN q=0)→EN p≠0→FSTE EN P=EN p
  | [],j,p,h,_,_=>by simp at h
  | x :: P,0,p,h,_,hn=>by
    simp only [List.getElem?_cons_zero,Option.some.injEq] at h
    subst h
    rw [FSTE,if_neg hn]
  | x :: P,j+1,p,h,hz,hn=>by
    rw [FSTE,if_pos (hz 0 x (by omega) rfl)]
    exact z4X (by simpa using h) (fun i q hi hq=>hz (i+1) q (by omega) (by simpa using hq)) hn
theorem zg6 {w w':World} {l:List RND} {P:List Nat} {e:Ending} (h:RAT w l P e w'):Below w.heap.size w w'∧((FSTE (fun p=>(RGOT l p).1) P≠0∧e=.returned (.tuple #[.slice none 0 0,.int .i64 (FSTE (fun p=>(RGOT l p).1) P)]))∨(FSTE (fun p=>(RGOT l p).1) P=0∧∃ a c,e=.returned (.tuple #[.slice a P.length c,.int .i64 0])∧w'.ownsRow w.heap.size 35 32 (.slice a P.length c) P.length (z00 (P.flatMap fun p=>(RGOT l p).2)))):=by
  obtain ⟨hb,h⟩:=h
  refine ⟨hb,?_⟩
  rcases h with ⟨hz,h⟩ | ⟨j,p,h1,h2,h3,rfl⟩
  · exact .inr ⟨z4I hz,h⟩
  · have e:=z4X (EN:=fun p=>(RGOT l p).1) h1 h2 h3
    exact .inl ⟨by rw [e];exact h3,by rw [e]⟩
def WNT (EN:Nat→Int) (E:Int) (P:List Nat):Int:=if E=0 then FSTE EN P else E
end Go.Proofs.YtnmalbngdhjhjaaGreatDoor

namespace Go.Proofs.YtnmalbngdhjhjaaGreatDoor
set_option maxRecDepth 100000
def NEED:Nat→Nat→List Nat→List Nat
  | h,k,[]=>[PLC h k]
  | 0,_,_ :: _=>[]
  | h+1,k,x :: l=>NEED h (2*k) ((x :: l).filter fun y=>decide (y<(2*k+1)*2 ^ h)) ++ NEED h (2*k+1) ((x :: l).filter fun y=>!decide (y<(2*k+1)*2 ^ h))
theorem z8F (h k:Nat):NEED h k []=[PLC h k]:=by cases h <;> rfl
theorem z7h (h k x:Nat) (l:List Nat):NEED (h+1) k (x :: l)=NEED h (2*k) ((x :: l).filter fun y=>decide (y<(2*k+1)*2 ^ h)) ++ NEED h (2*k+1) ((x :: l).filter fun y=>!decide (y<(2*k+1)*2 ^ h)):=rfl
theorem RANKS.take:∀ {L:List Nat} {t r:Nat},RANKS L t r→L.take r=L.filter fun y=>decide (y<t)
  | [],t,r,_=>by simp
  | x :: l,t,0,h=>by
    rw [List.take_zero]
    symm
    rw [List.filter_eq_nil_iff]
    intro y hy
    obtain ⟨i,hi⟩:=List.getElem?_of_mem hy
    have:=h.hi i y (Nat.zero_le _) hi
    simp
    omega
  | x :: l,t,r+1,h=>by
    have hx:x<t:=h.lo 0 x (by omega) rfl
    have h':RANKS l t r:=⟨by have:=h.le;simp at this;omega,fun i y hi hy=>h.lo (i+1) y (by omega) (by simpa using hy),fun i y hi hy=>h.hi (i+1) y (by omega) (by simpa using hy)⟩
    rw [List.take_succ_cons,List.filter_cons_of_pos (by simpa using hx),h'.take]
theorem RANKS.drop:∀ {L:List Nat} {t r:Nat},RANKS L t r→L.drop r=L.filter fun y=>!decide (y<t)
  | [],t,r,_=>by simp
  | x :: l,t,0,h=>by
    rw [List.drop_zero]
    symm
    rw [List.filter_eq_self]
    intro y hy
    obtain ⟨i,hi⟩:=List.getElem?_of_mem hy
    have:=h.hi i y (Nat.zero_le _) hi
    simp
    omega
  | x :: l,t,r+1,h=>by
    have hx:x<t:=h.lo 0 x (by omega) rfl
    have h':RANKS l t r:=⟨by have:=h.le;simp at this;omega,fun i y hi hy=>h.lo (i+1) y (by omega) (by simpa using hy),fun i y hi hy=>h.hi (i+1) y (by omega) (by simpa using hy)⟩
    rw [List.drop_succ_cons,List.filter_cons_of_neg (by simpa using hx),h'.drop]
theorem RISES.take {L:List Nat} (h:RISES L) (r:Nat):RISES (L.take r):=fun i j x y hij hx hy=>by
  rw [List.getElem?_take] at hx hy
  split at hx
  · split at hy
    · exact h i j x y hij hx hy
    · cases hy
  · cases hx
theorem RISES.drop {L:List Nat} (h:RISES L) (r:Nat):RISES (L.drop r):=fun i j x y hij hx hy=>by
  rw [List.getElem?_drop] at hx hy
  exact h (r+i) (r+j) x y (by omega) hx hy
def z7D:List (Nat × Nat)→List Nat→List Nat
  | [],_=>[]
  | (h,k) :: ps,L=>NEED h k (L.filter fun y=>decide (y<(k+1)*2 ^ h)) ++ z7D ps (L.filter fun y=>!decide (y<(k+1)*2 ^ h))
end Go.Proofs.YtnmalbngdhjhjaaGreatDoor

namespace Go.Proofs.YtnmalbngdhjhjaaGreatDoor
set_option maxRecDepth 100000
def TPS (n:Nat):List (Nat × Nat):=(HS 0 n).map fun h=>(h,2*(n / 2 ^ (h+1)))
theorem zaA {α:Type}:∀ {l:List α} {j:Nat} {x:α},l[j]?=some x→l.drop j=x :: l.drop (j+1)
  | [],j,x,h=>by simp at h
  | y :: l,0,x,h=>by
    simp only [List.getElem?_cons_zero,Option.some.injEq] at h
    rw [h]
    rfl
  | y :: l,j+1,x,h=>by
    rw [List.getElem?_cons_succ] at h
    rw [List.drop_succ_cons,List.drop_succ_cons]
    exact zaA h
theorem z2D {n:Nat} (hn:n<2 ^ 64):(TPS n).length=PC n:=by
  rw [TPS,List.length_map,z4B hn 0 (by decide),Nat.pow_zero,Nat.div_one]
theorem zeU {n j h k:Nat} (e:(TPS n)[j]?=some (h,k)):(z3i n)[j]?=some (PLC h k):=by
  unfold TPS at e
  unfold z3i
  rw [List.getElem?_map] at e ⊢
  cases hj:(HS 0 n)[j]? with
  | none=>rw [hj] at e;cases e
  | some x=>
    rw [hj] at e
    simp only [Option.map_some,Option.some.injEq,Prod.mk.injEq] at e
    obtain ⟨rfl,rfl⟩:=e
    rfl
theorem z8G {h k:Nat} (hh:h≤62) (hs:(k+1)*2 ^ h≤2 ^ 62):Node h k:=by
  refine ⟨hh,?_⟩
  rcases Nat.lt_or_ge k (2 ^ (62 - h)) with h1 | h1
  · exact h1
  · have h2:(2 ^ (62 - h)+1)*2 ^ h≤(k+1)*2 ^ h:=Nat.mul_le_mul_right _ (by omega)
    rw [Nat.add_mul,← Nat.pow_add,show 62 - h+h=62 by omega] at h2
    have:=Nat.two_pow_pos h
    omega
theorem z48 {n h k:Nat} (hn:n≤2 ^ 62) (hm:(h,k)∈TPS n):h≤62∧(k+1)*2 ^ h≤n∧Node h k:=by
  unfold TPS at hm
  rw [List.mem_map] at hm
  obtain ⟨x,hx,e⟩:=hm
  simp only [Prod.mk.injEq] at e
  obtain ⟨rfl,rfl⟩:=e
  obtain ⟨_,h2,h3⟩:=z74 0 x (by decide) hx
  have h4:2*(n / 2 ^ (x+1))+1=n / 2 ^ x:=by
    rw [Nat.pow_succ,← Nat.div_div_eq_div_mul]
    omega
  have h5:(2*(n / 2 ^ (x+1))+1)*2 ^ x≤n:=by rw [h4];exact Nat.div_mul_le_self n (2 ^ x)
  have h6:x≤62:=by
    rcases Nat.lt_or_ge 62 x with h7 | h7
    · have h8:2 ^ 63≤2 ^ x:=Nat.pow_le_pow_right (by decide) h7
      have h9:1*2 ^ x≤(2*(n / 2 ^ (x+1))+1)*2 ^ x:=Nat.mul_le_mul_right _ (by omega)
      omega
    · exact h7
  exact ⟨h6,h5,z8G h6 (by omega)⟩
end Go.Proofs.YtnmalbngdhjhjaaGreatDoor

namespace Go.Proofs.YtnmalbngdhjhjaaGreatDoor
set_option maxRecDepth 100000
def NSP:Nat→Nat→List Nat→List (Nat × Nat)
  | h,k,[]=>[(h,k)]
  | 0,_,_ :: _=>[]
  | h+1,k,x :: l=>NSP h (2*k) ((x :: l).filter fun y=>decide (y<(2*k+1)*2 ^ h)) ++ NSP h (2*k+1) ((x :: l).filter fun y=>!decide (y<(2*k+1)*2 ^ h))
def SPL (s:Nat × Nat):Nat:=PLC s.1 s.2
theorem z3B (h k:Nat):NSP h k []=[(h,k)]:=by cases h <;> rfl
theorem z34:∀ (h k:Nat) (L:List Nat),NEED h k L=(NSP h k L).map SPL
  | h,k,[]=>by rw [z8F,z3B];rfl
  | 0,_,_ :: _=>rfl
  | h+1,k,x :: l=>by rw [z7h,NSP,List.map_append,← z34 h,← z34 h]
def FRS (s:Nat × Nat):Nat:=s.2*2 ^ s.1
def TOE (s:Nat × Nat):Nat:=(s.2+1)*2 ^ s.1
structure COVER (A B:Nat) (L:List Nat) (l:List (Nat × Nat)):Prop where
  within:∀ s∈l,A≤FRS s∧TOE s≤B
  off:∀ s∈l,∀ x∈L,¬ (FRS s≤x∧x<TOE s)
  sum:(l.map fun s=>2 ^ s.1).sum+L.length=B - A
  order:l.Pairwise fun s t=>TOE s≤FRS t
theorem zd9 (h k:Nat):k*2 ^ (h+1)=2*k*2 ^ h∧(k+1)*2 ^ (h+1)=(2*k+1+1)*2 ^ h:=by
  constructor
  · rw [Nat.pow_succ,Nat.mul_comm (2 ^ h) 2,← Nat.mul_assoc,Nat.mul_comm k 2]
  · rw [Nat.pow_succ,Nat.mul_comm (2 ^ h) 2,← Nat.mul_assoc,Nat.mul_comm (k+1) 2,show 2*(k+1)=2*k+1+1 by omega]
def MET (L:List Nat) (s:Nat × Nat):Prop:=∃ x∈L,FRS (s.1+1,s.2 / 2)≤x∧x<TOE (s.1+1,s.2 / 2)
theorem MET.mono {L L':List Nat} {s:Nat × Nat} (h:MET L s) (hm:∀ x∈L,x∈L'):MET L' s:=by
  obtain ⟨x,hx,h1⟩:=h
  exact ⟨x,hm x hx,h1⟩
theorem zgW {n:Nat} (hn:n≤4611686018427387904):TPS n=PKS n 0 (PC n):=by
  apply List.ext_getElem?
  intro i
  by_cases hi:i<PC n
  · rw [zgF hi]
    unfold TPS
    rw [List.getElem?_map,(z31 (by omega) hi).1]
    rfl
  · rw [List.getElem?_eq_none (by rw [z2D (by omega)];omega),List.getElem?_eq_none (by simp [PKS];omega)]
theorem z5E {n:Nat} (hn:n≤4611686018427387904):Tile 0 (TPS n) n:=by
  rw [zgW hn]
  exact (zeh hn (PC n) 0 (by omega)).1
end Go.Proofs.YtnmalbngdhjhjaaGreatDoor

namespace Go.Proofs.YtnmalbngdhjhjaaGreatDoor
open Go.RowKit
set_option maxRecDepth 100000
structure SPLIT (w w':World) (a:Option Addr) (n c:Nat) (L:List Nat) (t r:Nat) (a':Option Addr):Prop where
  rank:RANKS L t r
  lies:NUML w a' (L.drop r)
  nil:a'=none→c - r=0
  block:∀ x,a'=some x→∃ y,a=some y∧x.block=y.block
  spot:∀ x,a'=some x→x.spot=none
  below:Below w.heap.size w w'
end Go.Proofs.YtnmalbngdhjhjaaGreatDoor

namespace Go.Proofs.YtnmalbngdhjhjaaGreatDoor
open Go.RowKit
set_option maxRecDepth 100000
end Go.Proofs.YtnmalbngdhjhjaaGreatDoor

namespace Go.Proofs.YtnmalbngdhjhjaaGreatDoor
set_option maxRecDepth 100000
def SEG (a b:Nat):List Nat:=List.range' a (b - a)
theorem zbH (a b:Nat):(SEG a b).length=b - a:=List.length_range' ..
theorem zaB {a b:Nat} (h:b≤a):SEG a b=[]:=by rw [SEG,show b - a=0 by omega,List.range'_zero]
theorem z8H {a b:Nat} (h:a<b):SEG a b≠[]:=fun e=>by
  have:=congrArg List.length e
  rw [zbH,List.length_nil] at this
  omega
theorem z6i (m:Nat):∀ (n a:Nat),(List.range' a n).filter (fun y=>decide (y<m))=List.range' a (min n (m - a))
  | 0,a=>by simp
  | n + 1,a=>by
    rw [List.range'_succ,List.filter_cons,z6i m n (a+1)]
    by_cases h:a<m
    · rw [decide_eq_true h,if_pos rfl,show min (n+1) (m - a)=min n (m - (a+1))+1 by omega,List.range'_succ]
    · rw [decide_eq_false h,show min (n+1) (m - a)=0 by omega,show min n (m - (a+1))=0 by omega]
      rfl
theorem z5i (m:Nat):∀ (n a:Nat),(List.range' a n).filter (fun y=>!decide (y<m))=List.range' (max a m) (n - (m - a))
  | 0,a=>by simp
  | n+1,a=>by
    rw [List.range'_succ,List.filter_cons,z5i m n (a+1)]
    by_cases h:a<m
    · rw [decide_eq_true h,if_neg (by simp),show max (a+1) m=max a m by omega,show n+1 - (m - a)=n - (m - (a+1)) by omega]
    · rw [decide_eq_false h,if_pos (show (!false)=true from rfl),show n+1 - (m - a)=n+1 by omega,show n - (m - (a+1))=n by omega,show max (a+1) m=a+1 by omega,show max a m=a by omega,List.range'_succ]
theorem zaC (a b m:Nat):(SEG a b).filter (fun y=>decide (y<m))=SEG a (min b m):=by
  rw [SEG,z6i,SEG]
  congr 1
  omega
theorem z8I (a b m:Nat):(SEG a b).filter (fun y=>!decide (y<m))=SEG (max a m) b:=by
  rw [SEG,z5i,SEG]
  congr 1
  omega
def SG (F T h k:Nat):List Nat:=SEG (max F (k*2 ^ h)) (min T ((k+1)*2 ^ h))
abbrev APRT (F T h k:Nat):Prop:=min T ((k+1)*2 ^ h)≤max F (k*2 ^ h)
abbrev z0O (F T h k:Nat):Prop:=F≤k*2 ^ h∧(k+1)*2 ^ h≤T
theorem z2E {F T h k:Nat} (e:APRT F T h k):NEED h k (SG F T h k)=[PLC h k]:=by rw [SG,zaB e,z8F]
theorem z5F (h k:Nat):k*2 ^ (h+1)=2*k*2 ^ h∧(k+1)*2 ^ (h+1)=(2*k+1+1)*2 ^ h∧2*k*2 ^ h+2 ^ h=(2*k+1)*2 ^ h∧(2*k+1)*2 ^ h+2 ^ h=(2*k+1+1)*2 ^ h:=by
  obtain ⟨a,b⟩:=zd9 h k
  refine ⟨a,b,?_,?_⟩
  · rw [Nat.add_mul (2*k) 1,Nat.one_mul]
  · rw [Nat.add_mul (2*k+1) 1,Nat.one_mul]
theorem z8J (F T h k:Nat):(SG F T (h+1) k).filter (fun y=>decide (y<(2*k+1)*2 ^ h))=SG F T h (2*k)∧(SG F T (h+1) k).filter (fun y=>!decide (y<(2*k+1)*2 ^ h))=SG F T h (2*k+1):=by
  obtain ⟨t1,t2,t3,t4⟩:=z5F h k
  have hp:=Nat.two_pow_pos h
  unfold SG
  rw [t1,t2,zaC,z8I]
  generalize 2*k*2 ^ h=A at *
  generalize (2*k+1)*2 ^ h=B at *
  generalize (2*k+1+1)*2 ^ h=C at *
  generalize 2 ^ h=P at *
  constructor
  · congr 1
    omega
  · congr 1
    omega
theorem z3l {F T h k:Nat} (e:¬ APRT F T (h+1) k):NEED (h+1) k (SG F T (h+1) k)=NEED h (2*k) (SG F T h (2*k)) ++ NEED h (2*k+1) (SG F T h (2*k+1)):=by
  obtain ⟨s1,s2⟩:=z8J F T h k
  have hne:SG F T (h+1) k≠[]:=z8H (Nat.lt_of_not_le e)
  cases hs:SG F T (h+1) k with
  | nil=>exact absurd hs hne
  | cons x l=>rw [z7h,← hs,s1,s2]
theorem z29 {F T k:Nat} (e:¬ APRT F T 0 k):z0O F T 0 k:=by
  unfold APRT at e
  unfold z0O
  rw [Nat.pow_zero] at *
  omega
theorem z2F {F T h k:Nat} (e:z0O F T h k):¬ APRT F T h k:=by
  unfold z0O at e
  unfold APRT
  have h1:k*2 ^ h+2 ^ h=(k+1)*2 ^ h:=by rw [Nat.add_mul,Nat.one_mul]
  have hp:=Nat.two_pow_pos h
  generalize 2 ^ h=P at *
  generalize k*P=A at *
  generalize (k+1)*P=B at *
  omega
theorem z9K {F T h k:Nat} (e:z0O F T (h+1) k):z0O F T h (2*k)∧z0O F T h (2*k+1):=by
  obtain ⟨t1,t2,t3,t4⟩:=z5F h k
  unfold z0O at *
  rw [t1,t2] at e
  generalize 2*k*2 ^ h=A at *
  generalize (2*k+1)*2 ^ h=B at *
  generalize (2*k+1+1)*2 ^ h=C at *
  generalize 2 ^ h=P at *
  omega
theorem z1g {F T:Nat}:∀ {h k:Nat},z0O F T h k→NEED h k (SG F T h k)=[]
  | 0,k,e=>by
    have hne:SG F T 0 k≠[]:=z8H (Nat.lt_of_not_le (z2F e))
    cases hs:SG F T 0 k with
    | nil=>exact absurd hs hne
    | cons x l=>rfl
  | h+1,k,e=>by
    obtain ⟨a,b⟩:=z9K e
    rw [z3l (z2F e),z1g a,z1g b]
    rfl
def z0S (F T h k:Nat):Nat:=(if k*2 ^ h<F∧F<(k+1)*2 ^ h then 1 else 0)+(if k*2 ^ h<T∧T<(k+1)*2 ^ h then 1 else 0)
theorem zbI (F T h k:Nat):z0S F T h (2*k)+z0S F T h (2*k+1)≤z0S F T (h+1) k:=by
  obtain ⟨t1,t2,t3,t4⟩:=z5F h k
  unfold z0S
  rw [t1,t2]
  have hp:=Nat.two_pow_pos h
  generalize 2*k*2 ^ h=A at *
  generalize (2*k+1)*2 ^ h=B at *
  generalize (2*k+1+1)*2 ^ h=C at *
  generalize 2 ^ h=P at *
  (repeat' split) <;> omega
theorem zbJ {F T h k:Nat} (e:¬ APRT F T h k) (e':¬ z0O F T h k):1≤z0S F T h k:=by
  unfold APRT at e
  unfold z0O at e'
  unfold z0S
  generalize k*2 ^ h=A at *
  generalize (k+1)*2 ^ h=B at *
  (repeat' split) <;> omega
theorem z49 (F T:Nat):∀ (h k:Nat),(NEED h k (SG F T h k)).length≤1+h*z0S F T h k
  | 0,k=>by
    by_cases e:APRT F T 0 k
    · rw [z2E e];simp
    · rw [z1g (z29 e)];simp
  | h + 1,k=>by
    by_cases e:APRT F T (h+1) k
    · rw [z2E e];simp
    · by_cases e':z0O F T (h+1) k
      · rw [z1g e'];simp
      · rw [z3l e,List.length_append]
        have h1:=z49 F T h (2*k)
        have h2:=z49 F T h (2*k+1)
        have h3:=zbI F T h k
        have h4:=zbJ e e'
        generalize z0S F T h (2*k)=c1 at *
        generalize z0S F T h (2*k+1)=c2 at *
        generalize z0S F T (h+1) k=c at *
        have h5:h*(c1+c2)≤h*c:=Nat.mul_le_mul_left h h3
        rw [Nat.mul_add] at h5
        rw [Nat.add_mul h 1,Nat.one_mul]
        generalize h*c1=x at *
        generalize h*c2=y at *
        generalize h*c=z at *
        omega
theorem z7i (F T:Nat):∀ (ps:List (Nat × Nat)) (A B:Nat),Tile A ps B→T≤B→z7D ps (SEG (max F A) T)=(ps.map fun s=>NEED s.1 s.2 (SG F T s.1 s.2)).flatten
  | [],_,_,_,_=>rfl
  | (h,k) :: ps,A,B,ht,hT=>by
    obtain ⟨hN,hA,ht⟩:Node h k∧k*2 ^ h=A∧Tile ((k+1)*2 ^ h) ps B:=ht
    have hp:A+2 ^ h=(k+1)*2 ^ h:=by rw [← hA,Nat.add_mul,Nat.one_mul]
    have h2:=Nat.two_pow_pos h
    rw [z7D,zaC,z8I,show max (max F A) ((k+1)*2 ^ h)=max F ((k+1)*2 ^ h) by omega,z7i F T ps _ B ht hT,List.map_cons,List.flatten_cons]
    unfold SG
    rw [hA]
theorem z7j (F T:Nat):∀ (ps:List (Nat × Nat)) (A B:Nat),Tile A ps B→(ps.map fun s=>z0S F T s.1 s.2).sum≤(if A<F∧F<B then 1 else 0)+(if A<T∧T<B then 1 else 0)
  | [],_,_,_=>by simp
  | (h,k) :: ps,A,B,ht=>by
    obtain ⟨hN,hA,ht⟩:Node h k∧k*2 ^ h=A∧Tile ((k+1)*2 ^ h) ps B:=ht
    have hp:A+2 ^ h=(k+1)*2 ^ h:=by rw [← hA,Nat.add_mul,Nat.one_mul]
    have h2:=Nat.two_pow_pos h
    have h3:=ht.bound.1
    have h4:=z7j F T ps _ B ht
    rw [List.map_cons,List.sum_cons]
    unfold z0S at *
    simp only at *
    rw [hA]
    generalize (k+1)*2 ^ h=C at *
    generalize (ps.map fun s=>(if s.2*2 ^ s.1<F∧F<(s.2+1)*2 ^ s.1 then 1 else 0)+(if s.2*2 ^ s.1<T∧T<(s.2+1)*2 ^ s.1 then 1 else 0)).sum=s at *
    repeat' split at h4
    all_goals (repeat' split) <;> omega
theorem z8K (F T:Nat):∀ (ps:List (Nat × Nat)),(∀ p∈ps,p.1≤62)→((ps.map fun s=>NEED s.1 s.2 (SG F T s.1 s.2)).flatten).length≤ps.length+62*(ps.map fun s=>z0S F T s.1 s.2).sum
  | [],_=>by simp
  | (h,k) :: ps,hh=>by
    have h1:=z8K F T ps (fun p hp=>hh p (List.mem_cons_of_mem _ hp))
    have h2:=z49 F T h k
    have h3:h*z0S F T h k≤62*z0S F T h k:=Nat.mul_le_mul_right _ (hh (h,k) (List.mem_cons_self ..))
    rw [List.map_cons,List.flatten_cons,List.length_append,List.map_cons,List.sum_cons,List.length_cons,Nat.mul_add]
    show (NEED h k (SG F T h k)).length+_≤_+(62*z0S F T h k+_)
    omega
def SPP (F T N:Nat):List Nat:=z7D (TPS N) (SEG F T)
theorem z5G {F T N:Nat} (hN:N≤4611686018427387904) (hT:T≤N):SPP F T N=((TPS N).map fun s=>NEED s.1 s.2 (SG F T s.1 s.2)).flatten:=by
  have h:=z7i F T (TPS N) 0 N (z5E hN) hT
  rw [Nat.max_zero] at h
  exact h
theorem z6J {F T N:Nat} (hN:N≤4611686018427387904) (hT:T≤N):(SPP F T N).length≤188:=by
  rw [z5G hN hT]
  have h1:=z8K F T (TPS N) (fun p hp=>(z48 (n:=N) (by omega) (h:=p.1) (k:=p.2) hp).1)
  have h2:=z7j F T (TPS N) 0 N (z5E hN)
  have h3:=z2D (n:=N) (by omega)
  have h4:PC N≤64:=z3f 64 N (by omega)
  repeat' split at h2
  all_goals omega
def SPE (F T N:Nat):Int:=if 4611686018427387904<N then 30 else if T<F∨N<T then 32 else 0
end Go.Proofs.YtnmalbngdhjhjaaGreatDoor
