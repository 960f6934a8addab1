/- Texts of SpanVerifies, one behind the other: SpanVerifiesRegions. -/
import Derived.Test.YthdpkaiieomdoaaGreatDoorSpanVerifiesP21
namespace Go.Proofs.YthdpkaiieomdoaaGreatDoor
set_option linter.unusedSimpArgs false
open Go.RowKit
set_option maxRecDepth 100000
@[go_sem] def SV20OPSq0:Oper:=⟨some 168,.move (.tmp 17),25,"law.go:173",#[],none⟩
@[go_sem] def SV20OPSq1:Oper:=⟨some 169,.move (.tmp 29),3,"law.go:173",#[],none⟩
@[go_sem] def SV20OPSq2:Oper:=⟨some 170,.move (.tmp 17),25,"law.go:173",#[],none⟩
@[go_sem] def SV20OPSq3:Oper:=⟨some 171,.move (.tmp 29),3,"law.go:173",#[],none⟩
@[go_sem] def SV20OPSq4:Oper:=⟨some 172,.indexAddr 25 (.tmp 170) (.tmp 171),0,"law.go:173",#[⟨2,.data⟩,⟨3,.data⟩],none⟩
@[go_sem] def SV20OPSq5:Oper:=⟨some 173,.indexAddr 23 (.tmp 172) (.const (.int .i64 0)),0,"law.go:173",#[⟨4,.data⟩],none⟩
@[go_sem] def SV20OPSq6:Oper:=⟨some 174,.load 5 (.tmp 173),5,"law.go:173",#[⟨5,.data⟩],none⟩
@[go_sem] def SV20OPSq7:Oper:=⟨some 175,.binOp .add 5 (.tmp 174) (.const (.int .u8 1)) 5,5,"law.go:173",#[⟨6,.data⟩],none⟩
@[go_sem] def SV20OPSq8:Oper:=⟨some 176,.indexAddr 25 (.tmp 168) (.tmp 169),0,"law.go:173",#[⟨0,.data⟩,⟨1,.data⟩],none⟩
@[go_sem] def SV20OPSq9:Oper:=⟨some 177,.indexAddr 23 (.tmp 176) (.const (.int .i64 0)),0,"law.go:173",#[⟨8,.data⟩,⟨0,.phase⟩,⟨1,.phase⟩,⟨2,.phase⟩,⟨3,.phase⟩,⟨4,.phase⟩,⟨5,.phase⟩,⟨6,.phase⟩,⟨7,.phase⟩],none⟩
@[go_sem] def SV20OPSq10:Oper:=⟨none,.store 5 (.tmp 177) (.tmp 175),0,"law.go:173",#[⟨9,.data⟩,⟨7,.data⟩,⟨0,.phase⟩,⟨1,.phase⟩,⟨2,.phase⟩,⟨3,.phase⟩,⟨4,.phase⟩,⟨5,.phase⟩,⟨6,.phase⟩,⟨7,.phase⟩],none⟩
def z2d:Array Oper:=#[SV20OPSq0,SV20OPSq1,SV20OPSq2,SV20OPSq3,SV20OPSq4,SV20OPSq5,SV20OPSq6,SV20OPSq7,SV20OPSq8,SV20OPSq9,SV20OPSq10]
set_option maxHeartbeats 2000000 in
theorem z91 {Q:Exit→Act→World→Prop} {u0 u1 u2 u3 u4 u5 u6 u7 u8 u9 u10 u11 u12 u13 u14 u15 u16 u18 u19 u20 u21 u22 u23 u24 u25 u26 u27 u28 u30 u31 u32 u33 u34 u35 u36 u37 u38 u39 u40 u41 u42 u43 u44 u45 u46 u47 u48 u49 u50 u51 u52 u53 u54 u55 u56 u57 u58 u59 u60 u61 u62 u63 u64 u65 u66 u67 u68 u69 u70 u71 u72 u73 u74 u75 u76 u77 u78 u79 u80 u81 u82 u83 u84 u85 u86 u87 u88 u89 u90 u91 u92 u93 u94 u95 u96 u97 u98 u99 u100 u101 u102 u103 u104 u105 u106 u107 u108 u109 u110 u111 u112 u113 u114 u115 u116 u117 u118 u119 u120 u121 u122 u123 u124 u125 u126 u127 u128 u129 u130 u131 u132 u133 u134 u135 u136 u137 u138 u139 u140 u141 u142 u143 u144 u145 u146 u147 u148 u149 u150 u151 u152 u153 u154 u155 u156 u157 u158 u159 u160 u161 u162 u163 u164 u165 u166 u167 u168 u169 u170 u171 u172 u173 u174 u175 u176 u177 u178 u179 u180 u181 u182 u183 u184 u185 u186 u187 u188 u189 u190 u191 u192 u193 u194 u195 u196 u197 u198 u199:Value} (W:World) (gr nl qr i:Nat) (X X1:Int) (hi:(i:Int)<(nl:Int)) (hX:IntKind.u8.wrap (X+1)=X1) (P0 P1:World→Prop) (h0:P0 W.drew) (t0:∀ w,P0 w→(fun w:World=>w.cell? ⟨gr,i*32,none⟩=some (.int .u8 X)∧w.frozen? ⟨gr,i*32,none⟩=false) w) (s1:∀ w,P0 w→P1 (w.setCell ⟨gr,i*32,none⟩ (.int .u8 X1))) (hQ:∀ c (a:Act) (t:Tmp) (v:Value) w,Q (.panic c) (a.put (some t) v) w→Q (.panic c) a w)
    (hfin:∀ (w:World),(P1 w)→Q .normal {tmps:=#[u0,u1,u2,u3,u4,u5,u6,u7,u8,u9,u10,u11,u12,u13,u14,u15,u16,.slice (some ⟨gr,0,none⟩) nl qr,u18,u19,u20,u21,u22,u23,u24,u25,u26,u27,u28,.int .i64 (i:Int),u30,u31,u32,u33,u34,u35,u36,u37,u38,u39,u40,u41,u42,u43,u44,u45,u46,u47,u48,u49,u50,u51,u52,u53,u54,u55,u56,u57,u58,u59,u60,u61,u62,u63,u64,u65,u66,u67,u68,u69,u70,u71,u72,u73,u74,u75,u76,u77,u78,u79,u80,u81,u82,u83,u84,u85,u86,u87,u88,u89,u90,u91,u92,u93,u94,u95,u96,u97,u98,u99,u100,u101,u102,u103,u104,u105,u106,u107,u108,u109,u110,u111,u112,u113,u114,u115,u116,u117,u118,u119,u120,u121,u122,u123,u124,u125,u126,u127,u128,u129,u130,u131,u132,u133,u134,u135,u136,u137,u138,u139,u140,u141,u142,u143,u144,u145,u146,u147,u148,u149,u150,u151,u152,u153,u154,u155,u156,u157,u158,u159,u160,u161,u162,u163,u164,u165,u166,u167,.slice (some ⟨gr,0,none⟩) nl qr,.int .i64 (i:Int),.slice (some ⟨gr,0,none⟩) nl qr,.int .i64 (i:Int),.pointer (some ⟨gr,i*32,none⟩),.pointer (some ⟨gr,i*32,none⟩),.int .u8 X,.int .u8 X1,.pointer (some ⟨gr,i*32,none⟩),.pointer (some ⟨gr,i*32,none⟩),u178,u179,u180,u181,u182,u183,u184,u185,u186,u187,u188,u189,u190,u191,u192,u193,u194,u195,u196,u197,u198,u199],defers:=[]} w):(Code.region 20 z2d true).wp Tryz.prog Q {tmps:=#[u0,u1,u2,u3,u4,u5,u6,u7,u8,u9,u10,u11,u12,u13,u14,u15,u16,.slice (some ⟨gr,0,none⟩) nl qr,u18,u19,u20,u21,u22,u23,u24,u25,u26,u27,u28,.int .i64 (i:Int),u30,u31,u32,u33,u34,u35,u36,u37,u38,u39,u40,u41,u42,u43,u44,u45,u46,u47,u48,u49,u50,u51,u52,u53,u54,u55,u56,u57,u58,u59,u60,u61,u62,u63,u64,u65,u66,u67,u68,u69,u70,u71,u72,u73,u74,u75,u76,u77,u78,u79,u80,u81,u82,u83,u84,u85,u86,u87,u88,u89,u90,u91,u92,u93,u94,u95,u96,u97,u98,u99,u100,u101,u102,u103,u104,u105,u106,u107,u108,u109,u110,u111,u112,u113,u114,u115,u116,u117,u118,u119,u120,u121,u122,u123,u124,u125,u126,u127,u128,u129,u130,u131,u132,u133,u134,u135,u136,u137,u138,u139,u140,u141,u142,u143,u144,u145,u146,u147,u148,u149,u150,u151,u152,u153,u154,u155,u156,u157,u158,u159,u160,u161,u162,u163,u164,u165,u166,u167,u168,u169,u170,u171,u172,u173,u174,u175,u176,u177,u178,u179,u180,u181,u182,u183,u184,u185,u186,u187,u188,u189,u190,u191,u192,u193,u194,u195,u196,u197,u198,u199],defers:=[]} W:=by
  have kst6_7_9_10:∀ (w:World),(P1 w)→wpAnyH Tryz.prog .any z2d Q (fun _:World=>True) 0 #[true,true,true,true,true,true,true,true,true,true,true] {tmps:=#[u0,u1,u2,u3,u4,u5,u6,u7,u8,u9,u10,u11,u12,u13,u14,u15,u16,.slice (some ⟨gr,0,none⟩) nl qr,u18,u19,u20,u21,u22,u23,u24,u25,u26,u27,u28,.int .i64 (i:Int),u30,u31,u32,u33,u34,u35,u36,u37,u38,u39,u40,u41,u42,u43,u44,u45,u46,u47,u48,u49,u50,u51,u52,u53,u54,u55,u56,u57,u58,u59,u60,u61,u62,u63,u64,u65,u66,u67,u68,u69,u70,u71,u72,u73,u74,u75,u76,u77,u78,u79,u80,u81,u82,u83,u84,u85,u86,u87,u88,u89,u90,u91,u92,u93,u94,u95,u96,u97,u98,u99,u100,u101,u102,u103,u104,u105,u106,u107,u108,u109,u110,u111,u112,u113,u114,u115,u116,u117,u118,u119,u120,u121,u122,u123,u124,u125,u126,u127,u128,u129,u130,u131,u132,u133,u134,u135,u136,u137,u138,u139,u140,u141,u142,u143,u144,u145,u146,u147,u148,u149,u150,u151,u152,u153,u154,u155,u156,u157,u158,u159,u160,u161,u162,u163,u164,u165,u166,u167,.slice (some ⟨gr,0,none⟩) nl qr,.int .i64 (i:Int),.slice (some ⟨gr,0,none⟩) nl qr,.int .i64 (i:Int),.pointer (some ⟨gr,i*32,none⟩),.pointer (some ⟨gr,i*32,none⟩),.int .u8 X,.int .u8 X1,.pointer (some ⟨gr,i*32,none⟩),.pointer (some ⟨gr,i*32,none⟩),u178,u179,u180,u181,u182,u183,u184,u185,u186,u187,u188,u189,u190,u191,u192,u193,u194,u195,u196,u197,u198,u199],defers:=[]} w:=fun  w hp=>by
    exact wpAnyH_done (by kernel_rfl) (hfin  w hp) _
  have kst6_7_9:∀ (w:World),(P0 w)→wpAnyH Tryz.prog .any z2d Q (fun _:World=>True) 1 #[true,true,true,true,true,true,true,true,true,true,false] {tmps:=#[u0,u1,u2,u3,u4,u5,u6,u7,u8,u9,u10,u11,u12,u13,u14,u15,u16,.slice (some ⟨gr,0,none⟩) nl qr,u18,u19,u20,u21,u22,u23,u24,u25,u26,u27,u28,.int .i64 (i:Int),u30,u31,u32,u33,u34,u35,u36,u37,u38,u39,u40,u41,u42,u43,u44,u45,u46,u47,u48,u49,u50,u51,u52,u53,u54,u55,u56,u57,u58,u59,u60,u61,u62,u63,u64,u65,u66,u67,u68,u69,u70,u71,u72,u73,u74,u75,u76,u77,u78,u79,u80,u81,u82,u83,u84,u85,u86,u87,u88,u89,u90,u91,u92,u93,u94,u95,u96,u97,u98,u99,u100,u101,u102,u103,u104,u105,u106,u107,u108,u109,u110,u111,u112,u113,u114,u115,u116,u117,u118,u119,u120,u121,u122,u123,u124,u125,u126,u127,u128,u129,u130,u131,u132,u133,u134,u135,u136,u137,u138,u139,u140,u141,u142,u143,u144,u145,u146,u147,u148,u149,u150,u151,u152,u153,u154,u155,u156,u157,u158,u159,u160,u161,u162,u163,u164,u165,u166,u167,.slice (some ⟨gr,0,none⟩) nl qr,.int .i64 (i:Int),.slice (some ⟨gr,0,none⟩) nl qr,.int .i64 (i:Int),.pointer (some ⟨gr,i*32,none⟩),.pointer (some ⟨gr,i*32,none⟩),.int .u8 X,.int .u8 X1,.pointer (some ⟨gr,i*32,none⟩),.pointer (some ⟨gr,i*32,none⟩),u178,u179,u180,u181,u182,u183,u184,u185,u186,u187,u188,u189,u190,u191,u192,u193,u194,u195,u196,u197,u198,u199],defers:=[]} w:=fun  w hp=>by
    refine wpAnyH_ready (rs:=[10]) (by kernel_rfl) (by simp) ?_
    refine AllReadyH.cons (o:=SV20OPSq10) rfl (fun KQ hKQ=>?_) ?_
    · exact z0J (by rfl) (by have hx:=(t0 _ hp).1;have hy:=(t0 _ hp).2;go_simp) (have hp:(fun (w:World)=>(P1 w))  _:=s1 w hp;hKQ.out _ _ (trivial) (fun _=>kst6_7_9_10  _ hp))
    exact AllReadyH.nil
  have kst6_7:∀ (w:World),(P0 w)→wpAnyH Tryz.prog .any z2d Q (fun _:World=>True) 2 #[true,true,true,true,true,true,true,true,true,false,false] {tmps:=#[u0,u1,u2,u3,u4,u5,u6,u7,u8,u9,u10,u11,u12,u13,u14,u15,u16,.slice (some ⟨gr,0,none⟩) nl qr,u18,u19,u20,u21,u22,u23,u24,u25,u26,u27,u28,.int .i64 (i:Int),u30,u31,u32,u33,u34,u35,u36,u37,u38,u39,u40,u41,u42,u43,u44,u45,u46,u47,u48,u49,u50,u51,u52,u53,u54,u55,u56,u57,u58,u59,u60,u61,u62,u63,u64,u65,u66,u67,u68,u69,u70,u71,u72,u73,u74,u75,u76,u77,u78,u79,u80,u81,u82,u83,u84,u85,u86,u87,u88,u89,u90,u91,u92,u93,u94,u95,u96,u97,u98,u99,u100,u101,u102,u103,u104,u105,u106,u107,u108,u109,u110,u111,u112,u113,u114,u115,u116,u117,u118,u119,u120,u121,u122,u123,u124,u125,u126,u127,u128,u129,u130,u131,u132,u133,u134,u135,u136,u137,u138,u139,u140,u141,u142,u143,u144,u145,u146,u147,u148,u149,u150,u151,u152,u153,u154,u155,u156,u157,u158,u159,u160,u161,u162,u163,u164,u165,u166,u167,.slice (some ⟨gr,0,none⟩) nl qr,.int .i64 (i:Int),.slice (some ⟨gr,0,none⟩) nl qr,.int .i64 (i:Int),.pointer (some ⟨gr,i*32,none⟩),.pointer (some ⟨gr,i*32,none⟩),.int .u8 X,.int .u8 X1,.pointer (some ⟨gr,i*32,none⟩),u177,u178,u179,u180,u181,u182,u183,u184,u185,u186,u187,u188,u189,u190,u191,u192,u193,u194,u195,u196,u197,u198,u199],defers:=[]} w:=fun  w hp=>by
    refine wpAnyH_ready (rs:=[9]) (by kernel_rfl) (by simp) ?_
    refine AllReadyH.cons (o:=SV20OPSq9) rfl (fun KQ hKQ=>?_) ?_
    · exact z1C (by rfl) (by go_simp) (have hp:(fun (w:World)=>(P0 w))  _:=hp;hKQ.out _ _ (trivial) (fun _=>kst6_7_9  _ hp))
    exact AllReadyH.nil
  have kst6:∀ (w:World),(P0 w)→wpAnyH Tryz.prog .any z2d Q (fun _:World=>True) 3 #[true,true,true,true,true,true,true,false,true,false,false] {tmps:=#[u0,u1,u2,u3,u4,u5,u6,u7,u8,u9,u10,u11,u12,u13,u14,u15,u16,.slice (some ⟨gr,0,none⟩) nl qr,u18,u19,u20,u21,u22,u23,u24,u25,u26,u27,u28,.int .i64 (i:Int),u30,u31,u32,u33,u34,u35,u36,u37,u38,u39,u40,u41,u42,u43,u44,u45,u46,u47,u48,u49,u50,u51,u52,u53,u54,u55,u56,u57,u58,u59,u60,u61,u62,u63,u64,u65,u66,u67,u68,u69,u70,u71,u72,u73,u74,u75,u76,u77,u78,u79,u80,u81,u82,u83,u84,u85,u86,u87,u88,u89,u90,u91,u92,u93,u94,u95,u96,u97,u98,u99,u100,u101,u102,u103,u104,u105,u106,u107,u108,u109,u110,u111,u112,u113,u114,u115,u116,u117,u118,u119,u120,u121,u122,u123,u124,u125,u126,u127,u128,u129,u130,u131,u132,u133,u134,u135,u136,u137,u138,u139,u140,u141,u142,u143,u144,u145,u146,u147,u148,u149,u150,u151,u152,u153,u154,u155,u156,u157,u158,u159,u160,u161,u162,u163,u164,u165,u166,u167,.slice (some ⟨gr,0,none⟩) nl qr,.int .i64 (i:Int),.slice (some ⟨gr,0,none⟩) nl qr,.int .i64 (i:Int),.pointer (some ⟨gr,i*32,none⟩),.pointer (some ⟨gr,i*32,none⟩),.int .u8 X,u175,.pointer (some ⟨gr,i*32,none⟩),u177,u178,u179,u180,u181,u182,u183,u184,u185,u186,u187,u188,u189,u190,u191,u192,u193,u194,u195,u196,u197,u198,u199],defers:=[]} w:=fun  w hp=>by
    refine wpAnyH_ready (rs:=[7]) (by kernel_rfl) (by simp) ?_
    refine AllReadyH.cons (o:=SV20OPSq7) rfl (fun KQ hKQ=>?_) ?_
    · exact z1C (by rfl) (by have hx:=hX;go_simp) (have hp:(fun (w:World)=>(P0 w))  _:=hp;hKQ.out _ _ (trivial) (fun _=>kst6_7  _ hp))
    exact AllReadyH.nil
  have kst:∀ (w:World),(P0 w)→wpAnyH Tryz.prog .any z2d Q (fun _:World=>True) 4 #[true,true,true,true,true,true,false,false,true,false,false] {tmps:=#[u0,u1,u2,u3,u4,u5,u6,u7,u8,u9,u10,u11,u12,u13,u14,u15,u16,.slice (some ⟨gr,0,none⟩) nl qr,u18,u19,u20,u21,u22,u23,u24,u25,u26,u27,u28,.int .i64 (i:Int),u30,u31,u32,u33,u34,u35,u36,u37,u38,u39,u40,u41,u42,u43,u44,u45,u46,u47,u48,u49,u50,u51,u52,u53,u54,u55,u56,u57,u58,u59,u60,u61,u62,u63,u64,u65,u66,u67,u68,u69,u70,u71,u72,u73,u74,u75,u76,u77,u78,u79,u80,u81,u82,u83,u84,u85,u86,u87,u88,u89,u90,u91,u92,u93,u94,u95,u96,u97,u98,u99,u100,u101,u102,u103,u104,u105,u106,u107,u108,u109,u110,u111,u112,u113,u114,u115,u116,u117,u118,u119,u120,u121,u122,u123,u124,u125,u126,u127,u128,u129,u130,u131,u132,u133,u134,u135,u136,u137,u138,u139,u140,u141,u142,u143,u144,u145,u146,u147,u148,u149,u150,u151,u152,u153,u154,u155,u156,u157,u158,u159,u160,u161,u162,u163,u164,u165,u166,u167,.slice (some ⟨gr,0,none⟩) nl qr,.int .i64 (i:Int),.slice (some ⟨gr,0,none⟩) nl qr,.int .i64 (i:Int),.pointer (some ⟨gr,i*32,none⟩),.pointer (some ⟨gr,i*32,none⟩),u174,u175,.pointer (some ⟨gr,i*32,none⟩),u177,u178,u179,u180,u181,u182,u183,u184,u185,u186,u187,u188,u189,u190,u191,u192,u193,u194,u195,u196,u197,u198,u199],defers:=[]} w:=fun  w hp=>by
    refine wpAnyH_ready (rs:=[6]) (by kernel_rfl) (by simp) ?_
    refine AllReadyH.cons (o:=SV20OPSq6) rfl (fun KQ hKQ=>?_) ?_
    · exact z1C (by rfl) (by have hx:=(t0 _ hp).1;go_simp) (have hp:(fun (w:World)=>(P0 w))  _:=hp;hKQ.out _ _ (trivial) (fun _=>kst6  _ hp))
    exact AllReadyH.nil
  have hp:=h0
  have hww:(fun _:World=>True) W.drew:=trivial
  have last:=kst W.drew hp
  have z:wpAnyH Tryz.prog .any z2d Q (fun _:World=>True) 11 #[false,false,false,false,false,false,false,false,false,false,false] {tmps:=#[u0,u1,u2,u3,u4,u5,u6,u7,u8,u9,u10,u11,u12,u13,u14,u15,u16,.slice (some ⟨gr,0,none⟩) nl qr,u18,u19,u20,u21,u22,u23,u24,u25,u26,u27,u28,.int .i64 (i:Int),u30,u31,u32,u33,u34,u35,u36,u37,u38,u39,u40,u41,u42,u43,u44,u45,u46,u47,u48,u49,u50,u51,u52,u53,u54,u55,u56,u57,u58,u59,u60,u61,u62,u63,u64,u65,u66,u67,u68,u69,u70,u71,u72,u73,u74,u75,u76,u77,u78,u79,u80,u81,u82,u83,u84,u85,u86,u87,u88,u89,u90,u91,u92,u93,u94,u95,u96,u97,u98,u99,u100,u101,u102,u103,u104,u105,u106,u107,u108,u109,u110,u111,u112,u113,u114,u115,u116,u117,u118,u119,u120,u121,u122,u123,u124,u125,u126,u127,u128,u129,u130,u131,u132,u133,u134,u135,u136,u137,u138,u139,u140,u141,u142,u143,u144,u145,u146,u147,u148,u149,u150,u151,u152,u153,u154,u155,u156,u157,u158,u159,u160,u161,u162,u163,u164,u165,u166,u167,u168,u169,u170,u171,u172,u173,u174,u175,u176,u177,u178,u179,u180,u181,u182,u183,u184,u185,u186,u187,u188,u189,u190,u191,u192,u193,u194,u195,u196,u197,u198,u199],defers:=[]} W.drew:=by
    refine tkP SV20OPSq0 (.slice (some ⟨gr,0,none⟩) nl qr) 0 hQ hww ?_
    simp only [List.set]
    refine tkP SV20OPSq1 (.int .i64 (i:Int)) 1 hQ hww ?_
    simp only [List.set]
    refine tkP SV20OPSq2 (.slice (some ⟨gr,0,none⟩) nl qr) 2 hQ hww ?_
    simp only [List.set]
    refine tkP SV20OPSq3 (.int .i64 (i:Int)) 3 hQ hww ?_
    simp only [List.set]
    refine tkH SV20OPSq4 (.pointer (some ⟨gr,i*32,none⟩)) 4 hQ (Or.inl ⟨by rfl,fun w hw=>by have hx:=hi;go_simp⟩) hww ?_
    simp only [List.set]
    refine tkP SV20OPSq5 (.pointer (some ⟨gr,i*32,none⟩)) 5 hQ hww ?_
    simp only [List.set]
    refine tkH SV20OPSq8 (.pointer (some ⟨gr,i*32,none⟩)) 8 hQ (Or.inl ⟨by rfl,fun w hw=>by have hx:=hi;go_simp⟩) hww ?_
    simp only [List.set]
    exact last
  exact wp_region_held_drew (S:=(fun _:World=>True)) (by kernel_rfl) hww (fun _=>z)
@[go_sem] def SV21OPSq0:Oper:=⟨some 178,.move (.tmp 0),3,"law.go:175",#[],none⟩
@[go_sem] def SV21OPSq1:Oper:=⟨some 179,.load 23 (.tmp 9),23,"law.go:175",#[],none⟩
@[go_sem] def SV21OPSq2:Oper:=⟨some 180,.move (.tmp 2),24,"law.go:175",#[],none⟩
@[go_sem] def SV21OPSq3:Oper:=⟨some 181,.move (.tmp 3),24,"law.go:175",#[],none⟩
@[go_sem] def SV21OPSq4:Oper:=⟨some 182,.move (.tmp 4),24,"law.go:175",#[],none⟩
@[go_sem] def SV21OPSq5:Oper:=⟨some 183,.move (.tmp 17),25,"law.go:175",#[],none⟩
@[go_sem] def SV21OPSq6:Oper:=⟨some 184,.move (.tmp 18),26,"law.go:175",#[],none⟩
@[go_sem] def SV21OPSq7:Oper:=⟨some 185,.call {callee:=.value (.func 10),args:=#[.tmp 178,.tmp 179,.tmp 180,.tmp 181,.tmp 182,.tmp 183,.tmp 184],argTypes:=#[3,23,24,24,24,25,26]},31,"law.go:175",#[⟨0,.data⟩,⟨1,.data⟩,⟨2,.data⟩,⟨3,.data⟩,⟨4,.data⟩,⟨5,.data⟩,⟨6,.data⟩],none⟩
@[go_sem] def SV21OPSq8:Oper:=⟨some 186,.move (.tmp 0),3,"law.go:175",#[],none⟩
@[go_sem] def SV21OPSq9:Oper:=⟨some 187,.load 23 (.tmp 9),23,"law.go:175",#[],none⟩
@[go_sem] def SV21OPSq10:Oper:=⟨some 188,.move (.tmp 2),24,"law.go:175",#[],none⟩
@[go_sem] def SV21OPSq11:Oper:=⟨some 189,.move (.tmp 3),24,"law.go:175",#[],none⟩
@[go_sem] def SV21OPSq12:Oper:=⟨some 190,.move (.tmp 4),24,"law.go:175",#[],none⟩
@[go_sem] def SV21OPSq13:Oper:=⟨some 191,.buildSlice 25 0 #[],25,"law.go:175",#[],none⟩
@[go_sem] def SV21OPSq14:Oper:=⟨some 192,.move (.tmp 17),25,"law.go:175",#[],none⟩
@[go_sem] def SV21OPSq15:Oper:=⟨some 193,.call {callee:=.builtin .append,args:=#[.tmp 191,.tmp 192],argTypes:=#[25,25]},25,"law.go:175",#[⟨13,.data⟩,⟨14,.data⟩,⟨7,.chain⟩],none⟩
@[go_sem] def SV21OPSq16:Oper:=⟨some 194,.move (.tmp 6),26,"law.go:175",#[],none⟩
@[go_sem] def SV21OPSq17:Oper:=⟨some 195,.call {callee:=.value (.func 9),args:=#[.tmp 186,.tmp 187,.tmp 188,.tmp 189,.tmp 190,.tmp 193,.tmp 194],argTypes:=#[3,23,24,24,24,25,26]},31,"law.go:175",#[⟨8,.data⟩,⟨9,.data⟩,⟨10,.data⟩,⟨11,.data⟩,⟨12,.data⟩,⟨15,.data⟩,⟨16,.data⟩,⟨15,.chain⟩],none⟩
@[go_sem] def SV21OPSq18:Oper:=⟨some 196,.binOp .eql 31 (.tmp 185) (.tmp 195) 31,4,"law.go:175",#[⟨7,.data⟩,⟨17,.data⟩],none⟩
@[go_sem] def SV21OPSq19:Oper:=⟨some 197,.move (.tmp 196),4,"law.go:175",#[⟨18,.data⟩,⟨17,.chain⟩],none⟩
@[go_sem] def SV21OPSq20:Oper:=⟨some 198,.call {callee:=.value (.func 18),args:=#[],argTypes:=#[]},4,"law.go:175",#[⟨19,.chain⟩,⟨19,.guard⟩],some (19,true)⟩
@[go_sem] def SV21OPSq21:Oper:=⟨some 199,.pick (.tmp 197) (.tmp 198) (.const (.bool false)),4,"law.go:175",#[⟨19,.data⟩,⟨20,.data⟩],none⟩
@[go_sem] def SV21OPSq22:Oper:=⟨some 16,.assign (.tmp 199),4,"law.go:175",#[⟨21,.data⟩,⟨20,.chain⟩,⟨0,.phase⟩,⟨1,.phase⟩,⟨2,.phase⟩,⟨3,.phase⟩,⟨4,.phase⟩,⟨5,.phase⟩,⟨6,.phase⟩,⟨7,.phase⟩,⟨8,.phase⟩,⟨9,.phase⟩,⟨10,.phase⟩,⟨11,.phase⟩,⟨12,.phase⟩,⟨13,.phase⟩,⟨14,.phase⟩,⟨15,.phase⟩,⟨16,.phase⟩,⟨17,.phase⟩,⟨18,.phase⟩,⟨19,.phase⟩,⟨20,.phase⟩,⟨21,.phase⟩],none⟩
def z2J:Array Oper:=#[SV21OPSq0,SV21OPSq1,SV21OPSq2,SV21OPSq3,SV21OPSq4,SV21OPSq5,SV21OPSq6,SV21OPSq7,SV21OPSq8,SV21OPSq9,SV21OPSq10,SV21OPSq11,SV21OPSq12,SV21OPSq13,SV21OPSq14,SV21OPSq15,SV21OPSq16,SV21OPSq17,SV21OPSq18,SV21OPSq19,SV21OPSq20,SV21OPSq21,SV21OPSq22]
set_option maxHeartbeats 2000000 in
theorem z92 {Q:Exit→Act→World→Prop} {u1 u5 u7 u8 u10 u11 u12 u13 u14 u15 u16 u19 u20 u21 u22 u23 u24 u25 u26 u27 u28 u29 u30 u31 u32 u33 u34 u35 u36 u37 u38 u39 u40 u41 u42 u43 u44 u45 u46 u47 u48 u49 u50 u51 u52 u53 u54 u55 u56 u57 u58 u59 u60 u61 u62 u63 u64 u65 u66 u67 u68 u69 u70 u71 u72 u73 u74 u75 u76 u77 u78 u79 u80 u81 u82 u83 u84 u85 u86 u87 u88 u89 u90 u91 u92 u93 u94 u95 u96 u97 u98 u99 u100 u101 u102 u103 u104 u105 u106 u107 u108 u109 u110 u111 u112 u113 u114 u115 u116 u117 u118 u119 u120 u121 u122 u123 u124 u125 u126 u127 u128 u129 u130 u131 u132 u133 u134 u135 u136 u137 u138 u139 u140 u141 u142 u143 u144 u145 u146 u147 u148 u149 u150 u151 u152 u153 u154 u155 u156 u157 u158 u159 u160 u161 u162 u163 u164 u165 u166 u167 u168 u169 u170 u171 u172 u173 u174 u175 u176 u177 u178 u179 u180 u181 u182 u183 u184 u185 u186 u187 u188 u189 u190 u191 u192 u193 u194 u195 u196 u197 u198 u199:Value} (W:World) (d:Int) (N F T br gr nl qr gt k qt cb B:Nat) (ab:Option Addr) (R LV:List Int) (V:Int) (hR:R.length=32) (hm:nl≤1000) (P:World→Prop) (h0:P W.drew) (hS:∀ w,P w→(fun w:World=>w.rangeAt br 0 (z00 R)) w) (hB:∀ w,P w→B≤w.heap.size) (hkl:∀ w,P w→Flat w (some ⟨gr,0,none⟩) nl LV) (hal:∀ w o,P w→P (w.alloc o)) (hgr:∀ w w' z,P w→w.grownBy w' z→(∀ k,z=some k→B≤k)→P w')
    (c1:∀ w,P w→Calls Tryz.prog 10 #[.int .i64 d,.agg (z00 R).toArray,.int .u64 (N:Int),.int .u64 (F:Int),.int .u64 (T:Int),.slice (some ⟨gr,0,none⟩) nl qr,.slice (some ⟨gt,0,none⟩) k qt] w fun e w'=>e=.returned (.int .i64 V)∧P w'∧Below w.heap.size w w') (q2:∀ w a2 c2,P w→w.ownsRow B 23 32 (.slice a2 nl c2) nl (z00 LV)→Calls Tryz.prog 9 #[.int .i64 d,.agg (z00 R).toArray,.int .u64 (N:Int),.int .u64 (F:Int),.int .u64 (T:Int),.slice a2 nl c2,.slice ab k cb] w fun e w'=>e=.returned (.int .i64 V)∧P w') (q3:∀ w,P w→Calls Tryz.prog 18 #[] w fun e w'=>e=.returned (.bool true)∧P w') (hQ:∀ c (a:Act) (t:Tmp) (v:Value) w,Q (.panic c) (a.put (some t) v) w→Q (.panic c) a w)
    (hfin:∀ (z:Nat) (a2:Option Addr) (c2:Nat) (w:World),(P w)→Q .normal {tmps:=#[.int .i64 d,u1,.int .u64 (N:Int),.int .u64 (F:Int),.int .u64 (T:Int),u5,.slice ab k cb,u7,u8,.pointer (some ⟨br,0,none⟩),u10,u11,u12,u13,u14,u15,.bool true,.slice (some ⟨gr,0,none⟩) nl qr,.slice (some ⟨gt,0,none⟩) k qt,u19,u20,u21,u22,u23,u24,u25,u26,u27,u28,u29,u30,u31,u32,u33,u34,u35,u36,u37,u38,u39,u40,u41,u42,u43,u44,u45,u46,u47,u48,u49,u50,u51,u52,u53,u54,u55,u56,u57,u58,u59,u60,u61,u62,u63,u64,u65,u66,u67,u68,u69,u70,u71,u72,u73,u74,u75,u76,u77,u78,u79,u80,u81,u82,u83,u84,u85,u86,u87,u88,u89,u90,u91,u92,u93,u94,u95,u96,u97,u98,u99,u100,u101,u102,u103,u104,u105,u106,u107,u108,u109,u110,u111,u112,u113,u114,u115,u116,u117,u118,u119,u120,u121,u122,u123,u124,u125,u126,u127,u128,u129,u130,u131,u132,u133,u134,u135,u136,u137,u138,u139,u140,u141,u142,u143,u144,u145,u146,u147,u148,u149,u150,u151,u152,u153,u154,u155,u156,u157,u158,u159,u160,u161,u162,u163,u164,u165,u166,u167,u168,u169,u170,u171,u172,u173,u174,u175,u176,u177,.int .i64 d,.agg (z00 R).toArray,.int .u64 (N:Int),.int .u64 (F:Int),.int .u64 (T:Int),.slice (some ⟨gr,0,none⟩) nl qr,.slice (some ⟨gt,0,none⟩) k qt,.int .i64 V,.int .i64 d,.agg (z00 R).toArray,.int .u64 (N:Int),.int .u64 (F:Int),.int .u64 (T:Int),.slice (some ⟨z,0,none⟩) 0 0,.slice (some ⟨gr,0,none⟩) nl qr,.slice a2 nl c2,.slice ab k cb,.int .i64 V,.bool true,.bool true,.bool true,.bool true],defers:=[]} w):(Code.region 21 z2J true).wp Tryz.prog Q {tmps:=#[.int .i64 d,u1,.int .u64 (N:Int),.int .u64 (F:Int),.int .u64 (T:Int),u5,.slice ab k cb,u7,u8,.pointer (some ⟨br,0,none⟩),u10,u11,u12,u13,u14,u15,u16,.slice (some ⟨gr,0,none⟩) nl qr,.slice (some ⟨gt,0,none⟩) k qt,u19,u20,u21,u22,u23,u24,u25,u26,u27,u28,u29,u30,u31,u32,u33,u34,u35,u36,u37,u38,u39,u40,u41,u42,u43,u44,u45,u46,u47,u48,u49,u50,u51,u52,u53,u54,u55,u56,u57,u58,u59,u60,u61,u62,u63,u64,u65,u66,u67,u68,u69,u70,u71,u72,u73,u74,u75,u76,u77,u78,u79,u80,u81,u82,u83,u84,u85,u86,u87,u88,u89,u90,u91,u92,u93,u94,u95,u96,u97,u98,u99,u100,u101,u102,u103,u104,u105,u106,u107,u108,u109,u110,u111,u112,u113,u114,u115,u116,u117,u118,u119,u120,u121,u122,u123,u124,u125,u126,u127,u128,u129,u130,u131,u132,u133,u134,u135,u136,u137,u138,u139,u140,u141,u142,u143,u144,u145,u146,u147,u148,u149,u150,u151,u152,u153,u154,u155,u156,u157,u158,u159,u160,u161,u162,u163,u164,u165,u166,u167,u168,u169,u170,u171,u172,u173,u174,u175,u176,u177,u178,u179,u180,u181,u182,u183,u184,u185,u186,u187,u188,u189,u190,u191,u192,u193,u194,u195,u196,u197,u198,u199],defers:=[]} W:=by
  have kst7_13_15:∀ (z:Nat) (a2:Option Addr) (c2:Nat) (w:World),(P w∧w.ownsRow B 23 32 (.slice a2 nl c2) nl (z00 LV))→wpAnyH Tryz.prog .any z2J Q (fun w:World=>w.rangeAt br 0 (z00 R)) 6 #[true,true,true,true,true,true,true,true,true,true,true,true,true,true,true,true,true,false,false,false,false,false,false] {tmps:=#[.int .i64 d,u1,.int .u64 (N:Int),.int .u64 (F:Int),.int .u64 (T:Int),u5,.slice ab k cb,u7,u8,.pointer (some ⟨br,0,none⟩),u10,u11,u12,u13,u14,u15,u16,.slice (some ⟨gr,0,none⟩) nl qr,.slice (some ⟨gt,0,none⟩) k qt,u19,u20,u21,u22,u23,u24,u25,u26,u27,u28,u29,u30,u31,u32,u33,u34,u35,u36,u37,u38,u39,u40,u41,u42,u43,u44,u45,u46,u47,u48,u49,u50,u51,u52,u53,u54,u55,u56,u57,u58,u59,u60,u61,u62,u63,u64,u65,u66,u67,u68,u69,u70,u71,u72,u73,u74,u75,u76,u77,u78,u79,u80,u81,u82,u83,u84,u85,u86,u87,u88,u89,u90,u91,u92,u93,u94,u95,u96,u97,u98,u99,u100,u101,u102,u103,u104,u105,u106,u107,u108,u109,u110,u111,u112,u113,u114,u115,u116,u117,u118,u119,u120,u121,u122,u123,u124,u125,u126,u127,u128,u129,u130,u131,u132,u133,u134,u135,u136,u137,u138,u139,u140,u141,u142,u143,u144,u145,u146,u147,u148,u149,u150,u151,u152,u153,u154,u155,u156,u157,u158,u159,u160,u161,u162,u163,u164,u165,u166,u167,u168,u169,u170,u171,u172,u173,u174,u175,u176,u177,.int .i64 d,.agg (z00 R).toArray,.int .u64 (N:Int),.int .u64 (F:Int),.int .u64 (T:Int),.slice (some ⟨gr,0,none⟩) nl qr,.slice (some ⟨gt,0,none⟩) k qt,.int .i64 V,.int .i64 d,.agg (z00 R).toArray,.int .u64 (N:Int),.int .u64 (F:Int),.int .u64 (T:Int),.slice (some ⟨z,0,none⟩) 0 0,.slice (some ⟨gr,0,none⟩) nl qr,.slice a2 nl c2,.slice ab k cb,u195,u196,u197,u198,u199],defers:=[]} w:=fun z a2 c2 w hp=>by
    refine wpAnyH_ready (rs:=[17]) (by kernel_rfl) (by simp) ?_
    refine AllReadyH.cons (o:=SV21OPSq17) rfl (fun KQ hKQ=>?_) ?_
    · rw [if_pos (by rfl)]
      go_simp
      refine (show Calls _ _ _ w (fun e w'=>e=.returned (.int .i64 V)∧(P w')) from q2 w a2 c2 hp.1 hp.2).mono ?_
      rintro e w ⟨rfl,hp⟩
      refine hKQ.out _ _ (hS _ hp) (fun _=>?_)
      simp only [List.setIfInBounds_toArray,List.set]
      have hww:(fun w:World=>w.rangeAt br 0 (z00 R)) w:=hS _ hp
      refine tkH SV21OPSq18 (.bool true) 18 hQ (Or.inl ⟨by rfl,fun w hw=>by have hx:=beq_self_eq_true V;go_simp⟩) hww ?_
      simp only [List.set]
      refine tkP SV21OPSq19 (.bool true) 19 hQ hww ?_
      simp only [List.set]
      refine wpAnyH_ready (rs:=[20]) (by kernel_rfl) (by simp) ?_
      refine AllReadyH.cons (o:=SV21OPSq20) rfl (fun KQ hKQ=>?_) ?_
      · rw [if_pos (by rfl)]
        go_simp
        refine (show Calls _ _ _ w (fun e w'=>e=.returned (.bool true)∧(P w')) from q3 w hp).mono ?_
        rintro e w ⟨rfl,hp⟩
        refine hKQ.out _ _ (hS _ hp) (fun _=>?_)
        simp only [List.setIfInBounds_toArray,List.set]
        have hww:(fun w:World=>w.rangeAt br 0 (z00 R)) w:=hS _ hp
        refine tkP SV21OPSq21 (.bool true) 21 hQ hww ?_
        simp only [List.set]
        refine tkP SV21OPSq22 (.bool true) 22 hQ hww ?_
        simp only [List.set]
        exact wpAnyH_done (by kernel_rfl) (hfin z a2 c2 w hp) _
      exact AllReadyH.nil
    exact AllReadyH.nil
  have kst7_13:∀ (z:Nat) (w:World),(P w∧w.ownsRow B 23 32 (.slice (some ⟨z,0,none⟩) 0 0) 0 [])→wpAnyH Tryz.prog .any z2J Q (fun w:World=>w.rangeAt br 0 (z00 R)) 7 #[true,true,true,true,true,true,true,true,true,true,true,true,true,true,true,false,true,false,false,false,false,false,false] {tmps:=#[.int .i64 d,u1,.int .u64 (N:Int),.int .u64 (F:Int),.int .u64 (T:Int),u5,.slice ab k cb,u7,u8,.pointer (some ⟨br,0,none⟩),u10,u11,u12,u13,u14,u15,u16,.slice (some ⟨gr,0,none⟩) nl qr,.slice (some ⟨gt,0,none⟩) k qt,u19,u20,u21,u22,u23,u24,u25,u26,u27,u28,u29,u30,u31,u32,u33,u34,u35,u36,u37,u38,u39,u40,u41,u42,u43,u44,u45,u46,u47,u48,u49,u50,u51,u52,u53,u54,u55,u56,u57,u58,u59,u60,u61,u62,u63,u64,u65,u66,u67,u68,u69,u70,u71,u72,u73,u74,u75,u76,u77,u78,u79,u80,u81,u82,u83,u84,u85,u86,u87,u88,u89,u90,u91,u92,u93,u94,u95,u96,u97,u98,u99,u100,u101,u102,u103,u104,u105,u106,u107,u108,u109,u110,u111,u112,u113,u114,u115,u116,u117,u118,u119,u120,u121,u122,u123,u124,u125,u126,u127,u128,u129,u130,u131,u132,u133,u134,u135,u136,u137,u138,u139,u140,u141,u142,u143,u144,u145,u146,u147,u148,u149,u150,u151,u152,u153,u154,u155,u156,u157,u158,u159,u160,u161,u162,u163,u164,u165,u166,u167,u168,u169,u170,u171,u172,u173,u174,u175,u176,u177,.int .i64 d,.agg (z00 R).toArray,.int .u64 (N:Int),.int .u64 (F:Int),.int .u64 (T:Int),.slice (some ⟨gr,0,none⟩) nl qr,.slice (some ⟨gt,0,none⟩) k qt,.int .i64 V,.int .i64 d,.agg (z00 R).toArray,.int .u64 (N:Int),.int .u64 (F:Int),.int .u64 (T:Int),.slice (some ⟨z,0,none⟩) 0 0,.slice (some ⟨gr,0,none⟩) nl qr,u193,.slice ab k cb,u195,u196,u197,u198,u199],defers:=[]} w:=fun z w hp=>by
    refine wpAnyH_ready (rs:=[15]) (by kernel_rfl) (by simp) ?_
    refine AllReadyH.cons (o:=SV21OPSq15) rfl (fun KQ hKQ=>?_) ?_
    · exact z1B (by rfl) (z8Z w rfl (.tmp 191) (.tmp 192) rfl B z rfl hp.2 (some ⟨gr,0,none⟩) nl qr LV rfl (hkl _ hp.1) (fun h=>by cases h) hm (hB _ hp.1) (fun a2 c2 w' h1 h2=>⟨rfl,(have hp:(fun (z:Nat) (a2:Option Addr) (c2:Nat) (w:World)=>(P w∧w.ownsRow B 23 32 (.slice a2 nl c2) nl (z00 LV))) z a2 c2 w':=⟨hgr _ _ _ hp.1 h2 (fun k e=>(hp.2.lt k e).1),h1⟩;hKQ.out _ _ (hS _ hp.1) (fun _=>kst7_13_15 z a2 c2 _ hp))⟩))
    exact AllReadyH.nil
  have kst13:∀ (z:Nat) (w:World),(P w∧w.ownsRow B 23 32 (.slice (some ⟨z,0,none⟩) 0 0) 0 [])→wpAnyH Tryz.prog .any z2J Q (fun w:World=>w.rangeAt br 0 (z00 R)) 8 #[true,true,true,true,true,true,true,false,true,true,true,true,true,true,true,false,true,false,false,false,false,false,false] {tmps:=#[.int .i64 d,u1,.int .u64 (N:Int),.int .u64 (F:Int),.int .u64 (T:Int),u5,.slice ab k cb,u7,u8,.pointer (some ⟨br,0,none⟩),u10,u11,u12,u13,u14,u15,u16,.slice (some ⟨gr,0,none⟩) nl qr,.slice (some ⟨gt,0,none⟩) k qt,u19,u20,u21,u22,u23,u24,u25,u26,u27,u28,u29,u30,u31,u32,u33,u34,u35,u36,u37,u38,u39,u40,u41,u42,u43,u44,u45,u46,u47,u48,u49,u50,u51,u52,u53,u54,u55,u56,u57,u58,u59,u60,u61,u62,u63,u64,u65,u66,u67,u68,u69,u70,u71,u72,u73,u74,u75,u76,u77,u78,u79,u80,u81,u82,u83,u84,u85,u86,u87,u88,u89,u90,u91,u92,u93,u94,u95,u96,u97,u98,u99,u100,u101,u102,u103,u104,u105,u106,u107,u108,u109,u110,u111,u112,u113,u114,u115,u116,u117,u118,u119,u120,u121,u122,u123,u124,u125,u126,u127,u128,u129,u130,u131,u132,u133,u134,u135,u136,u137,u138,u139,u140,u141,u142,u143,u144,u145,u146,u147,u148,u149,u150,u151,u152,u153,u154,u155,u156,u157,u158,u159,u160,u161,u162,u163,u164,u165,u166,u167,u168,u169,u170,u171,u172,u173,u174,u175,u176,u177,.int .i64 d,.agg (z00 R).toArray,.int .u64 (N:Int),.int .u64 (F:Int),.int .u64 (T:Int),.slice (some ⟨gr,0,none⟩) nl qr,.slice (some ⟨gt,0,none⟩) k qt,u185,.int .i64 d,.agg (z00 R).toArray,.int .u64 (N:Int),.int .u64 (F:Int),.int .u64 (T:Int),.slice (some ⟨z,0,none⟩) 0 0,.slice (some ⟨gr,0,none⟩) nl qr,u193,.slice ab k cb,u195,u196,u197,u198,u199],defers:=[]} w:=fun z w hp=>by
    refine wpAnyH_ready (rs:=[7]) (by kernel_rfl) (by simp) ?_
    refine AllReadyH.cons (o:=SV21OPSq7) rfl (fun KQ hKQ=>?_) ?_
    · rw [if_pos (by rfl)]
      go_simp
      refine (show Calls _ _ _ w (fun e w'=>e=.returned (.int .i64 V)∧(P w'∧w'.ownsRow B 23 32 (.slice (some ⟨z,0,none⟩) 0 0) 0 [])) from (c1 w hp.1).mono fun e w' h=>⟨h.1,h.2.1,z0n hp.2 fun k e=>h.2.2.block k (hp.2.lt k e).2⟩).mono ?_
      rintro e w' ⟨rfl,hp⟩
      exact hKQ.out _ _ (hS _ hp.1) (fun _=>kst7_13 z w' hp)
    exact AllReadyH.nil
  have kst:∀ (w:World),(P w)→wpAnyH Tryz.prog .any z2J Q (fun w:World=>w.rangeAt br 0 (z00 R)) 9 #[true,true,true,true,true,true,true,false,true,true,true,true,true,false,true,false,true,false,false,false,false,false,false] {tmps:=#[.int .i64 d,u1,.int .u64 (N:Int),.int .u64 (F:Int),.int .u64 (T:Int),u5,.slice ab k cb,u7,u8,.pointer (some ⟨br,0,none⟩),u10,u11,u12,u13,u14,u15,u16,.slice (some ⟨gr,0,none⟩) nl qr,.slice (some ⟨gt,0,none⟩) k qt,u19,u20,u21,u22,u23,u24,u25,u26,u27,u28,u29,u30,u31,u32,u33,u34,u35,u36,u37,u38,u39,u40,u41,u42,u43,u44,u45,u46,u47,u48,u49,u50,u51,u52,u53,u54,u55,u56,u57,u58,u59,u60,u61,u62,u63,u64,u65,u66,u67,u68,u69,u70,u71,u72,u73,u74,u75,u76,u77,u78,u79,u80,u81,u82,u83,u84,u85,u86,u87,u88,u89,u90,u91,u92,u93,u94,u95,u96,u97,u98,u99,u100,u101,u102,u103,u104,u105,u106,u107,u108,u109,u110,u111,u112,u113,u114,u115,u116,u117,u118,u119,u120,u121,u122,u123,u124,u125,u126,u127,u128,u129,u130,u131,u132,u133,u134,u135,u136,u137,u138,u139,u140,u141,u142,u143,u144,u145,u146,u147,u148,u149,u150,u151,u152,u153,u154,u155,u156,u157,u158,u159,u160,u161,u162,u163,u164,u165,u166,u167,u168,u169,u170,u171,u172,u173,u174,u175,u176,u177,.int .i64 d,.agg (z00 R).toArray,.int .u64 (N:Int),.int .u64 (F:Int),.int .u64 (T:Int),.slice (some ⟨gr,0,none⟩) nl qr,.slice (some ⟨gt,0,none⟩) k qt,u185,.int .i64 d,.agg (z00 R).toArray,.int .u64 (N:Int),.int .u64 (F:Int),.int .u64 (T:Int),u191,.slice (some ⟨gr,0,none⟩) nl qr,u193,.slice ab k cb,u195,u196,u197,u198,u199],defers:=[]} w:=fun  w hp=>by
    refine wpAnyH_ready (rs:=[7,13]) (by kernel_rfl) (by simp) ?_
    refine AllReadyH.cons (o:=SV21OPSq7) rfl (fun KQ hKQ=>?_) ?_
    · rw [if_pos (by rfl)]
      go_simp
      refine (show Calls _ _ _ w (fun e w'=>e=.returned (.int .i64 V)∧(P w')) from (c1 w hp).mono fun e w' h=>⟨h.1,h.2.1⟩).mono ?_
      rintro e w ⟨rfl,hp⟩
      refine hKQ.out _ _ (hS _ hp) (fun _=>?_)
      simp only [List.setIfInBounds_toArray,List.set]
      refine wpAnyH_ready (rs:=[13]) (by kernel_rfl) (by simp) ?_
      refine AllReadyH.cons (o:=SV21OPSq13) rfl (fun KQ hKQ=>?_) ?_
      · exact z1C (by rfl) (by go_simp) (have hp:(fun (z:Nat) (w:World)=>(P w∧w.ownsRow B 23 32 (.slice (some ⟨z,0,none⟩) 0 0) 0 [])) w.heap.size _:=⟨hal _ _ hp,z0f (z3c w) (hB _ hp)⟩;hKQ.out _ _ (hS _ hp.1) (fun _=>kst7_13 w.heap.size _ hp))
      exact AllReadyH.nil
    refine AllReadyH.cons (o:=SV21OPSq13) rfl (fun KQ hKQ=>?_) ?_
    · exact z1C (by rfl) (by go_simp) (have hp:(fun (z:Nat) (w:World)=>(P w∧w.ownsRow B 23 32 (.slice (some ⟨z,0,none⟩) 0 0) 0 [])) w.heap.size _:=⟨hal _ _ hp,z0f (z3c w) (hB _ hp)⟩;hKQ.out _ _ (hS _ hp.1) (fun _=>kst13 w.heap.size _ hp))
    exact AllReadyH.nil
  have hp:=h0
  have hww:(fun w:World=>w.rangeAt br 0 (z00 R)) W.drew:=hS _ hp
  have last:=kst W.drew hp
  have z:wpAnyH Tryz.prog .any z2J Q (fun w:World=>w.rangeAt br 0 (z00 R)) 23 #[false,false,false,false,false,false,false,false,false,false,false,false,false,false,false,false,false,false,false,false,false,false,false] {tmps:=#[.int .i64 d,u1,.int .u64 (N:Int),.int .u64 (F:Int),.int .u64 (T:Int),u5,.slice ab k cb,u7,u8,.pointer (some ⟨br,0,none⟩),u10,u11,u12,u13,u14,u15,u16,.slice (some ⟨gr,0,none⟩) nl qr,.slice (some ⟨gt,0,none⟩) k qt,u19,u20,u21,u22,u23,u24,u25,u26,u27,u28,u29,u30,u31,u32,u33,u34,u35,u36,u37,u38,u39,u40,u41,u42,u43,u44,u45,u46,u47,u48,u49,u50,u51,u52,u53,u54,u55,u56,u57,u58,u59,u60,u61,u62,u63,u64,u65,u66,u67,u68,u69,u70,u71,u72,u73,u74,u75,u76,u77,u78,u79,u80,u81,u82,u83,u84,u85,u86,u87,u88,u89,u90,u91,u92,u93,u94,u95,u96,u97,u98,u99,u100,u101,u102,u103,u104,u105,u106,u107,u108,u109,u110,u111,u112,u113,u114,u115,u116,u117,u118,u119,u120,u121,u122,u123,u124,u125,u126,u127,u128,u129,u130,u131,u132,u133,u134,u135,u136,u137,u138,u139,u140,u141,u142,u143,u144,u145,u146,u147,u148,u149,u150,u151,u152,u153,u154,u155,u156,u157,u158,u159,u160,u161,u162,u163,u164,u165,u166,u167,u168,u169,u170,u171,u172,u173,u174,u175,u176,u177,u178,u179,u180,u181,u182,u183,u184,u185,u186,u187,u188,u189,u190,u191,u192,u193,u194,u195,u196,u197,u198,u199],defers:=[]} W.drew:=by
    refine tkP SV21OPSq0 (.int .i64 d) 0 hQ hww ?_
    simp only [List.set]
    refine tkH SV21OPSq1 (.agg (z00 R).toArray) 1 hQ (yieldsIf_load_mid (by rfl) 23 (.tmp 9) rfl br 0 rfl (z00 R) _ (fun w h=>h) Tryz.underlying23 rfl (z0j hR)) hww ?_
    simp only [List.set]
    refine tkP SV21OPSq2 (.int .u64 (N:Int)) 2 hQ hww ?_
    simp only [List.set]
    refine tkP SV21OPSq3 (.int .u64 (F:Int)) 3 hQ hww ?_
    simp only [List.set]
    refine tkP SV21OPSq4 (.int .u64 (T:Int)) 4 hQ hww ?_
    simp only [List.set]
    refine tkP SV21OPSq5 (.slice (some ⟨gr,0,none⟩) nl qr) 5 hQ hww ?_
    simp only [List.set]
    refine tkP SV21OPSq6 (.slice (some ⟨gt,0,none⟩) k qt) 6 hQ hww ?_
    simp only [List.set]
    refine tkP SV21OPSq8 (.int .i64 d) 8 hQ hww ?_
    simp only [List.set]
    refine tkH SV21OPSq9 (.agg (z00 R).toArray) 9 hQ (yieldsIf_load_mid (by rfl) 23 (.tmp 9) rfl br 0 rfl (z00 R) _ (fun w h=>h) Tryz.underlying23 rfl (z0j hR)) hww ?_
    simp only [List.set]
    refine tkP SV21OPSq10 (.int .u64 (N:Int)) 10 hQ hww ?_
    simp only [List.set]
    refine tkP SV21OPSq11 (.int .u64 (F:Int)) 11 hQ hww ?_
    simp only [List.set]
    refine tkP SV21OPSq12 (.int .u64 (T:Int)) 12 hQ hww ?_
    simp only [List.set]
    refine tkP SV21OPSq14 (.slice (some ⟨gr,0,none⟩) nl qr) 14 hQ hww ?_
    simp only [List.set]
    refine tkP SV21OPSq16 (.slice ab k cb) 16 hQ hww ?_
    simp only [List.set]
    exact last
  exact wp_region_held_drew (S:=(fun w:World=>w.rangeAt br 0 (z00 R))) (by kernel_rfl) hww (fun _=>z)
end Go.Proofs.YthdpkaiieomdoaaGreatDoor
