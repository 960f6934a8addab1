/- Texts of SpanMakes, one behind the other: TreeRefAppendRegions. -/
import Derived.Test.YtnmalbngdhjhjaaGreatDoorSpanMakesP25
namespace Go.Proofs.YtnmalbngdhjhjaaGreatDoor
set_option linter.unusedSimpArgs false
open Go.RowKit
set_option maxRecDepth 100000
theorem z1L {s:Sem Value} {w w':World} {v:Value} (h:s.run Tryz.prog w=.ok v w'):(do pure (Next.value (← s)):Sem Next).run Tryz.prog w=.ok (.value v) w':=by
  simp [h,go_sem]
@[go_sem] def RA1OPSq0:Oper:=⟨some 10,.move (.tmp 0),31,"ref.go:74",#[],none⟩
@[go_sem] def RA1OPSq1:Oper:=⟨some 11,.nilCheck (.tmp 10),0,"ref.go:74",#[⟨0,.data⟩],none⟩
@[go_sem] def RA1OPSq2:Oper:=⟨some 12,.fieldAddr 39 (.tmp 11) 2,0,"ref.go:74",#[⟨1,.data⟩],none⟩
@[go_sem] def RA1OPSq3:Oper:=⟨some 13,.load 37 (.tmp 12),37,"ref.go:74",#[⟨2,.data⟩],none⟩
@[go_sem] def RA1OPSq4:Oper:=⟨some 14,.load 35 (.tmp 3),35,"ref.go:74",#[],none⟩
@[go_sem] def RA1OPSq5:Oper:=⟨some 15,.call {callee:=.value (.func 91),args:=#[.tmp 13,.tmp 14],argTypes:=#[37,35]},24,"ref.go:74",#[⟨3,.data⟩,⟨4,.data⟩],none⟩
@[go_sem] def RA1OPSq6:Oper:=⟨some 5,.assign (.tmp 15),24,"ref.go:74",#[⟨5,.data⟩,⟨5,.chain⟩,⟨0,.phase⟩,⟨1,.phase⟩,⟨2,.phase⟩,⟨3,.phase⟩,⟨4,.phase⟩,⟨5,.phase⟩],none⟩
def z8t:Array Oper:=#[RA1OPSq0,RA1OPSq1,RA1OPSq2,RA1OPSq3,RA1OPSq4,RA1OPSq5,RA1OPSq6]
set_option maxHeartbeats 2000000 in
theorem zez {Q:Exit→Act→World→Prop} {u1 u2 u4 u5 u6 u7 u8 u9 u10 u11 u12 u13 u14 u15 u16 u17 u18 u19 u20 u21 u22 u23 u24 u25 u26 u27 u28 u29 u30 u31 u32 u33 u34 u35 u36 u37 u38 u39 u40 u41 u42 u43 u44 u45 u46 u47 u48 u49 u50 u51 u52 u53 u54 u55 u56 u57 u58 u59 u60 u61 u62 u63 u64 u65 u66 u67 u68 u69 u70 u71 u72 u73 u74 u75 u76 u77 u78 u79:Value} (W:World) (gt gs b3 P:Nat) (h:List Int) (lh:h.length=32) (P0 P1:World→Prop) (h0:P0 W.drew) (t0:∀ w,P0 w→(fun w:World=>w.cell? ⟨gt,2,none⟩=some (.pointer (some ⟨gs,0,none⟩))∧w.rangeAt b3 0 (z00 h)) w) (t1:∀ w,P1 w→(fun w:World=>w.cell? ⟨gt,2,none⟩=some (.pointer (some ⟨gs,0,none⟩))∧w.rangeAt b3 0 (z00 h)) w) (cP:∀ w,P0 w→Calls Tryz.prog 91 #[.pointer (some ⟨gs,0,none⟩),.agg (z00 h).toArray] w fun e w'=>e=.returned (.int .u64 (P:Int))∧P1 w') (hQ:∀ c (a:Act) (t:Tmp) (v:Value) w,Q (.panic c) (a.put (some t) v) w→Q (.panic c) a w)
    (hfin:∀ (w:World),(P1 w)→Q .normal {tmps:=#[.pointer (some ⟨gt,0,none⟩),u1,u2,.pointer (some ⟨b3,0,none⟩),u4,.int .u64 (P:Int),u6,u7,u8,u9,.pointer (some ⟨gt,0,none⟩),.pointer (some ⟨gt,0,none⟩),.pointer (some ⟨gt,2,none⟩),.pointer (some ⟨gs,0,none⟩),.agg (z00 h).toArray,.int .u64 (P:Int),u16,u17,u18,u19,u20,u21,u22,u23,u24,u25,u26,u27,u28,u29,u30,u31,u32,u33,u34,u35,u36,u37,u38,u39,u40,u41,u42,u43,u44,u45,u46,u47,u48,u49,u50,u51,u52,u53,u54,u55,u56,u57,u58,u59,u60,u61,u62,u63,u64,u65,u66,u67,u68,u69,u70,u71,u72,u73,u74,u75,u76,u77,u78,u79],defers:=[]} w):(Code.region 1 z8t true).wp Tryz.prog Q {tmps:=#[.pointer (some ⟨gt,0,none⟩),u1,u2,.pointer (some ⟨b3,0,none⟩),u4,u5,u6,u7,u8,u9,u10,u11,u12,u13,u14,u15,u16,u17,u18,u19,u20,u21,u22,u23,u24,u25,u26,u27,u28,u29,u30,u31,u32,u33,u34,u35,u36,u37,u38,u39,u40,u41,u42,u43,u44,u45,u46,u47,u48,u49,u50,u51,u52,u53,u54,u55,u56,u57,u58,u59,u60,u61,u62,u63,u64,u65,u66,u67,u68,u69,u70,u71,u72,u73,u74,u75,u76,u77,u78,u79],defers:=[]} W:=by
  have kst:∀ (w:World),(P0 w)→wpAnyH Tryz.prog .any z8t Q (fun w:World=>w.cell? ⟨gt,2,none⟩=some (.pointer (some ⟨gs,0,none⟩))∧w.rangeAt b3 0 (z00 h)) 2 #[true,true,true,true,true,false,false] {tmps:=#[.pointer (some ⟨gt,0,none⟩),u1,u2,.pointer (some ⟨b3,0,none⟩),u4,u5,u6,u7,u8,u9,.pointer (some ⟨gt,0,none⟩),.pointer (some ⟨gt,0,none⟩),.pointer (some ⟨gt,2,none⟩),.pointer (some ⟨gs,0,none⟩),.agg (z00 h).toArray,u15,u16,u17,u18,u19,u20,u21,u22,u23,u24,u25,u26,u27,u28,u29,u30,u31,u32,u33,u34,u35,u36,u37,u38,u39,u40,u41,u42,u43,u44,u45,u46,u47,u48,u49,u50,u51,u52,u53,u54,u55,u56,u57,u58,u59,u60,u61,u62,u63,u64,u65,u66,u67,u68,u69,u70,u71,u72,u73,u74,u75,u76,u77,u78,u79],defers:=[]} w:=fun  w hp=>by
    refine wpAnyH_ready (rs:=[5]) (by kernel_rfl) (by simp) ?_
    refine AllReadyH.cons (o:=RA1OPSq5) rfl (fun KQ hKQ=>?_) ?_
    · rw [if_pos (by rfl)]
      go_simp
      refine (show Calls _ _ _ w (fun e w'=>e=.returned (.int .u64 (P:Int))∧(P1 w')) from cP w hp).mono ?_
      rintro e w ⟨rfl,hp⟩
      refine hKQ.out _ _ (t1 _ hp) (fun _=>?_)
      simp only [List.setIfInBounds_toArray,List.set]
      have hww:(fun w:World=>w.cell? ⟨gt,2,none⟩=some (.pointer (some ⟨gs,0,none⟩))∧w.rangeAt b3 0 (z00 h)) w:=t1 _ hp
      refine tkP RA1OPSq6 (.int .u64 (P:Int)) 6 hQ hww ?_
      simp only [List.set]
      exact wpAnyH_done (by kernel_rfl) (hfin  w hp) _
    exact AllReadyH.nil
  have hp:=h0
  have hww:(fun w:World=>w.cell? ⟨gt,2,none⟩=some (.pointer (some ⟨gs,0,none⟩))∧w.rangeAt b3 0 (z00 h)) W.drew:=t0 _ hp
  have last:=kst W.drew hp
  have z:wpAnyH Tryz.prog .any z8t Q (fun w:World=>w.cell? ⟨gt,2,none⟩=some (.pointer (some ⟨gs,0,none⟩))∧w.rangeAt b3 0 (z00 h)) 7 #[false,false,false,false,false,false,false] {tmps:=#[.pointer (some ⟨gt,0,none⟩),u1,u2,.pointer (some ⟨b3,0,none⟩),u4,u5,u6,u7,u8,u9,u10,u11,u12,u13,u14,u15,u16,u17,u18,u19,u20,u21,u22,u23,u24,u25,u26,u27,u28,u29,u30,u31,u32,u33,u34,u35,u36,u37,u38,u39,u40,u41,u42,u43,u44,u45,u46,u47,u48,u49,u50,u51,u52,u53,u54,u55,u56,u57,u58,u59,u60,u61,u62,u63,u64,u65,u66,u67,u68,u69,u70,u71,u72,u73,u74,u75,u76,u77,u78,u79],defers:=[]} W.drew:=by
    refine tkP RA1OPSq0 (.pointer (some ⟨gt,0,none⟩)) 0 hQ hww ?_
    simp only [List.set]
    refine tkP RA1OPSq1 (.pointer (some ⟨gt,0,none⟩)) 1 hQ hww ?_
    simp only [List.set]
    refine tkP RA1OPSq2 (.pointer (some ⟨gt,2,none⟩)) 2 hQ hww ?_
    simp only [List.set]
    refine tkH RA1OPSq3 (.pointer (some ⟨gs,0,none⟩)) 3 hQ (Or.inl ⟨by rfl,fun w hw=>by have hx:=hw.1;go_simp⟩) hww ?_
    simp only [List.set]
    refine tkH RA1OPSq4 (.agg (z00 h).toArray) 4 hQ (yieldsIf_load_mid (by rfl) 35 (.tmp 3) rfl b3 0 rfl (z00 h) _ (fun w h=>h.2) Tryz.underlying35 rfl (z0u lh)) hww ?_
    simp only [List.set]
    exact last
  exact wp_region_held_drew (S:=(fun w:World=>w.cell? ⟨gt,2,none⟩=some (.pointer (some ⟨gs,0,none⟩))∧w.rangeAt b3 0 (z00 h))) (by kernel_rfl) hww (fun _=>z)
@[go_sem] def RA5OPSq0:Oper:=⟨some 30,.move (.tmp 0),31,"ref.go:78",#[],none⟩
@[go_sem] def RA5OPSq1:Oper:=⟨some 31,.nilCheck (.tmp 30),0,"ref.go:78",#[⟨0,.data⟩],none⟩
@[go_sem] def RA5OPSq2:Oper:=⟨some 32,.fieldAddr 39 (.tmp 31) 2,0,"ref.go:78",#[⟨1,.data⟩],none⟩
@[go_sem] def RA5OPSq3:Oper:=⟨some 33,.load 37 (.tmp 32),37,"ref.go:78",#[⟨2,.data⟩],none⟩
@[go_sem] def RA5OPSq4:Oper:=⟨some 34,.move (.tmp 0),31,"ref.go:78",#[],none⟩
@[go_sem] def RA5OPSq5:Oper:=⟨some 35,.nilCheck (.tmp 34),0,"ref.go:78",#[⟨4,.data⟩],none⟩
@[go_sem] def RA5OPSq6:Oper:=⟨some 36,.fieldAddr 39 (.tmp 35) 0,0,"ref.go:78",#[⟨5,.data⟩],none⟩
@[go_sem] def RA5OPSq7:Oper:=⟨some 37,.load 3 (.tmp 36),3,"ref.go:78",#[⟨6,.data⟩],none⟩
@[go_sem] def RA5OPSq8:Oper:=⟨some 38,.move (.tmp 0),31,"ref.go:78",#[],none⟩
@[go_sem] def RA5OPSq9:Oper:=⟨some 39,.nilCheck (.tmp 38),0,"ref.go:78",#[⟨8,.data⟩],none⟩
@[go_sem] def RA5OPSq10:Oper:=⟨some 40,.fieldAddr 39 (.tmp 39) 2,0,"ref.go:78",#[⟨9,.data⟩],none⟩
@[go_sem] def RA5OPSq11:Oper:=⟨some 41,.load 37 (.tmp 40),37,"ref.go:78",#[⟨10,.data⟩],none⟩
@[go_sem] def RA5OPSq12:Oper:=⟨some 42,.nilCheck (.tmp 41),0,"ref.go:78",#[⟨11,.data⟩],none⟩
@[go_sem] def RA5OPSq13:Oper:=⟨some 43,.fieldAddr 99 (.tmp 42) 1,0,"ref.go:78",#[⟨12,.data⟩],none⟩
@[go_sem] def RA5OPSq14:Oper:=⟨some 44,.load 97 (.tmp 43),97,"ref.go:78",#[⟨13,.data⟩],none⟩
@[go_sem] def RA5OPSq15:Oper:=⟨some 45,.move (.tmp 8),24,"ref.go:78",#[],none⟩
@[go_sem] def RA5OPSq16:Oper:=⟨some 46,.indexAddr 97 (.tmp 44) (.tmp 45),0,"ref.go:78",#[⟨14,.data⟩,⟨15,.data⟩],none⟩
@[go_sem] def RA5OPSq17:Oper:=⟨some 47,.fieldAddr 96 (.tmp 46) 0,0,"ref.go:78",#[⟨16,.data⟩],none⟩
@[go_sem] def RA5OPSq18:Oper:=⟨some 48,.load 35 (.tmp 47),35,"ref.go:78",#[⟨17,.data⟩],none⟩
@[go_sem] def RA5OPSq19:Oper:=⟨some 49,.move (.tmp 0),31,"ref.go:78",#[],none⟩
@[go_sem] def RA5OPSq20:Oper:=⟨some 50,.nilCheck (.tmp 49),0,"ref.go:78",#[⟨19,.data⟩],none⟩
@[go_sem] def RA5OPSq21:Oper:=⟨some 51,.fieldAddr 39 (.tmp 50) 2,0,"ref.go:78",#[⟨20,.data⟩],none⟩
@[go_sem] def RA5OPSq22:Oper:=⟨some 52,.load 37 (.tmp 51),37,"ref.go:78",#[⟨21,.data⟩],none⟩
@[go_sem] def RA5OPSq23:Oper:=⟨some 53,.nilCheck (.tmp 52),0,"ref.go:78",#[⟨22,.data⟩],none⟩
@[go_sem] def RA5OPSq24:Oper:=⟨some 54,.fieldAddr 99 (.tmp 53) 1,0,"ref.go:78",#[⟨23,.data⟩],none⟩
@[go_sem] def RA5OPSq25:Oper:=⟨some 55,.load 97 (.tmp 54),97,"ref.go:78",#[⟨24,.data⟩],none⟩
@[go_sem] def RA5OPSq26:Oper:=⟨some 56,.move (.tmp 5),24,"ref.go:78",#[],none⟩
@[go_sem] def RA5OPSq27:Oper:=⟨some 57,.indexAddr 97 (.tmp 55) (.tmp 56),0,"ref.go:78",#[⟨25,.data⟩,⟨26,.data⟩],none⟩
@[go_sem] def RA5OPSq28:Oper:=⟨some 58,.fieldAddr 96 (.tmp 57) 0,0,"ref.go:78",#[⟨27,.data⟩],none⟩
@[go_sem] def RA5OPSq29:Oper:=⟨some 59,.load 35 (.tmp 58),35,"ref.go:78",#[⟨28,.data⟩],none⟩
@[go_sem] def RA5OPSq30:Oper:=⟨some 60,.call {callee:=.value (.func 94),args:=#[.tmp 37,.tmp 48,.tmp 59],argTypes:=#[3,35,35]},35,"ref.go:78",#[⟨7,.data⟩,⟨18,.data⟩,⟨29,.data⟩],none⟩
@[go_sem] def RA5OPSq31:Oper:=⟨some 61,.call {callee:=.value (.func 91),args:=#[.tmp 33,.tmp 60],argTypes:=#[37,35]},24,"ref.go:78",#[⟨3,.data⟩,⟨30,.data⟩,⟨30,.chain⟩],none⟩
@[go_sem] def RA5OPSq32:Oper:=⟨some 5,.assign (.tmp 61),24,"ref.go:78",#[⟨31,.data⟩,⟨31,.chain⟩,⟨0,.phase⟩,⟨1,.phase⟩,⟨2,.phase⟩,⟨3,.phase⟩,⟨4,.phase⟩,⟨5,.phase⟩,⟨6,.phase⟩,⟨7,.phase⟩,⟨8,.phase⟩,⟨9,.phase⟩,⟨10,.phase⟩,⟨11,.phase⟩,⟨12,.phase⟩,⟨13,.phase⟩,⟨14,.phase⟩,⟨15,.phase⟩,⟨16,.phase⟩,⟨17,.phase⟩,⟨18,.phase⟩,⟨19,.phase⟩,⟨20,.phase⟩,⟨21,.phase⟩,⟨22,.phase⟩,⟨23,.phase⟩,⟨24,.phase⟩,⟨25,.phase⟩,⟨26,.phase⟩,⟨27,.phase⟩,⟨28,.phase⟩,⟨29,.phase⟩,⟨30,.phase⟩,⟨31,.phase⟩],none⟩
def z16:Array Oper:=#[RA5OPSq0,RA5OPSq1,RA5OPSq2,RA5OPSq3,RA5OPSq4,RA5OPSq5,RA5OPSq6,RA5OPSq7,RA5OPSq8,RA5OPSq9,RA5OPSq10,RA5OPSq11,RA5OPSq12,RA5OPSq13,RA5OPSq14,RA5OPSq15,RA5OPSq16,RA5OPSq17,RA5OPSq18,RA5OPSq19,RA5OPSq20,RA5OPSq21,RA5OPSq22,RA5OPSq23,RA5OPSq24,RA5OPSq25,RA5OPSq26,RA5OPSq27,RA5OPSq28,RA5OPSq29,RA5OPSq30,RA5OPSq31,RA5OPSq32]
set_option maxHeartbeats 2000000 in
theorem zeA {Q:Exit→Act→World→Prop} {u1 u2 u3 u4 u6 u7 u9 u10 u11 u12 u13 u14 u15 u16 u17 u18 u19 u20 u21 u22 u23 u24 u25 u26 u27 u28 u29 u30 u31 u32 u33 u34 u35 u36 u37 u38 u39 u40 u41 u42 u43 u44 u45 u46 u47 u48 u49 u50 u51 u52 u53 u54 u55 u56 u57 u58 u59 u60 u61 u62 u63 u64 u65 u66 u67 u68 u69 u70 u71 u72 u73 u74 u75 u76 u77 u78 u79:Value} (W:World) (gt gs gn n c P K P2:Nat) (D:Int) (L A X:List Int) (lL:L.length=32) (lA:A.length=32) (iK:(K:Int)<(n:Int)) (iP:(P:Int)<(n:Int)) (Q0 Q1 Q2:World→Prop) (h0:Q0 W.drew) (t0:∀ w,Q0 w→(fun w:World=>w.cell? ⟨gt,0,none⟩=some (.int .i64 D)∧w.cell? ⟨gt,2,none⟩=some (.pointer (some ⟨gs,0,none⟩))) w) (t1:∀ w,Q1 w→(fun w:World=>w.cell? ⟨gt,0,none⟩=some (.int .i64 D)∧w.cell? ⟨gt,2,none⟩=some (.pointer (some ⟨gs,0,none⟩))) w) (t2:∀ w,Q2 w→(fun w:World=>w.cell? ⟨gt,0,none⟩=some (.int .i64 D)∧w.cell? ⟨gt,2,none⟩=some (.pointer (some ⟨gs,0,none⟩))) w) (c0:∀ w,Q0 w→w.cell? ⟨gs,1,none⟩=some (.slice (some ⟨gn,0,none⟩) n c)) (rL:∀ w,Q0 w→w.rangeAt gn (K*34) (z00 L)) (rA:∀ w,Q0 w→w.rangeAt gn (P*34) (z00 A))
    (cN:∀ w,Q0 w→Calls Tryz.prog 94 #[.int .i64 D,.agg (z00 L).toArray,.agg (z00 A).toArray] w fun e w'=>e=.returned (.agg (z00 X).toArray)∧Q1 w') (cP:∀ w,Q1 w→Calls Tryz.prog 91 #[.pointer (some ⟨gs,0,none⟩),.agg (z00 X).toArray] w fun e w'=>e=.returned (.int .u64 (P2:Int))∧Q2 w') (hQ:∀ c (a:Act) (t:Tmp) (v:Value) w,Q (.panic c) (a.put (some t) v) w→Q (.panic c) a w)
    (hfin:∀ (w:World),(Q2 w)→Q .normal {tmps:=#[.pointer (some ⟨gt,0,none⟩),u1,u2,u3,u4,.int .u64 (P2:Int),u6,u7,.int .u64 (K:Int),u9,u10,u11,u12,u13,u14,u15,u16,u17,u18,u19,u20,u21,u22,u23,u24,u25,u26,u27,u28,u29,.pointer (some ⟨gt,0,none⟩),.pointer (some ⟨gt,0,none⟩),.pointer (some ⟨gt,2,none⟩),.pointer (some ⟨gs,0,none⟩),.pointer (some ⟨gt,0,none⟩),.pointer (some ⟨gt,0,none⟩),.pointer (some ⟨gt,0,none⟩),.int .i64 D,.pointer (some ⟨gt,0,none⟩),.pointer (some ⟨gt,0,none⟩),.pointer (some ⟨gt,2,none⟩),.pointer (some ⟨gs,0,none⟩),.pointer (some ⟨gs,0,none⟩),.pointer (some ⟨gs,1,none⟩),.slice (some ⟨gn,0,none⟩) n c,.int .u64 (K:Int),.pointer (some ⟨gn,(K*34),none⟩),.pointer (some ⟨gn,(K*34),none⟩),.agg (z00 L).toArray,.pointer (some ⟨gt,0,none⟩),.pointer (some ⟨gt,0,none⟩),.pointer (some ⟨gt,2,none⟩),.pointer (some ⟨gs,0,none⟩),.pointer (some ⟨gs,0,none⟩),.pointer (some ⟨gs,1,none⟩),.slice (some ⟨gn,0,none⟩) n c,.int .u64 (P:Int),.pointer (some ⟨gn,(P*34),none⟩),.pointer (some ⟨gn,(P*34),none⟩),.agg (z00 A).toArray,.agg (z00 X).toArray,.int .u64 (P2:Int),u62,u63,u64,u65,u66,u67,u68,u69,u70,u71,u72,u73,u74,u75,u76,u77,u78,u79],defers:=[]} w):(Code.region 5 z16 true).wp Tryz.prog Q {tmps:=#[.pointer (some ⟨gt,0,none⟩),u1,u2,u3,u4,.int .u64 (P:Int),u6,u7,.int .u64 (K:Int),u9,u10,u11,u12,u13,u14,u15,u16,u17,u18,u19,u20,u21,u22,u23,u24,u25,u26,u27,u28,u29,u30,u31,u32,u33,u34,u35,u36,u37,u38,u39,u40,u41,u42,u43,u44,u45,u46,u47,u48,u49,u50,u51,u52,u53,u54,u55,u56,u57,u58,u59,u60,u61,u62,u63,u64,u65,u66,u67,u68,u69,u70,u71,u72,u73,u74,u75,u76,u77,u78,u79],defers:=[]} W:=by
  have kst14_18_25_29:∀ (w:World),(Q0 w)→wpAnyH Tryz.prog .any z16 Q (fun w:World=>w.cell? ⟨gt,0,none⟩=some (.int .i64 D)∧w.cell? ⟨gt,2,none⟩=some (.pointer (some ⟨gs,0,none⟩))) 3 #[true,true,true,true,true,true,true,true,true,true,true,true,true,true,true,true,true,true,true,true,true,true,true,true,true,true,true,true,true,true,false,false,false] {tmps:=#[.pointer (some ⟨gt,0,none⟩),u1,u2,u3,u4,.int .u64 (P:Int),u6,u7,.int .u64 (K:Int),u9,u10,u11,u12,u13,u14,u15,u16,u17,u18,u19,u20,u21,u22,u23,u24,u25,u26,u27,u28,u29,.pointer (some ⟨gt,0,none⟩),.pointer (some ⟨gt,0,none⟩),.pointer (some ⟨gt,2,none⟩),.pointer (some ⟨gs,0,none⟩),.pointer (some ⟨gt,0,none⟩),.pointer (some ⟨gt,0,none⟩),.pointer (some ⟨gt,0,none⟩),.int .i64 D,.pointer (some ⟨gt,0,none⟩),.pointer (some ⟨gt,0,none⟩),.pointer (some ⟨gt,2,none⟩),.pointer (some ⟨gs,0,none⟩),.pointer (some ⟨gs,0,none⟩),.pointer (some ⟨gs,1,none⟩),.slice (some ⟨gn,0,none⟩) n c,.int .u64 (K:Int),.pointer (some ⟨gn,(K*34),none⟩),.pointer (some ⟨gn,(K*34),none⟩),.agg (z00 L).toArray,.pointer (some ⟨gt,0,none⟩),.pointer (some ⟨gt,0,none⟩),.pointer (some ⟨gt,2,none⟩),.pointer (some ⟨gs,0,none⟩),.pointer (some ⟨gs,0,none⟩),.pointer (some ⟨gs,1,none⟩),.slice (some ⟨gn,0,none⟩) n c,.int .u64 (P:Int),.pointer (some ⟨gn,(P*34),none⟩),.pointer (some ⟨gn,(P*34),none⟩),.agg (z00 A).toArray,u60,u61,u62,u63,u64,u65,u66,u67,u68,u69,u70,u71,u72,u73,u74,u75,u76,u77,u78,u79],defers:=[]} w:=fun  w hp=>by
    refine wpAnyH_ready (rs:=[30]) (by kernel_rfl) (by simp) ?_
    refine AllReadyH.cons (o:=RA5OPSq30) rfl (fun KQ hKQ=>?_) ?_
    · rw [if_pos (by rfl)]
      go_simp
      refine (show Calls _ _ _ w (fun e w'=>e=.returned (.agg (z00 X).toArray)∧(Q1 w')) from cN w hp).mono ?_
      rintro e w ⟨rfl,hp⟩
      refine hKQ.out _ _ (t1 _ hp) (fun _=>?_)
      simp only [List.setIfInBounds_toArray,List.set]
      refine wpAnyH_ready (rs:=[31]) (by kernel_rfl) (by simp) ?_
      refine AllReadyH.cons (o:=RA5OPSq31) rfl (fun KQ hKQ=>?_) ?_
      · rw [if_pos (by rfl)]
        go_simp
        refine (show Calls _ _ _ w (fun e w'=>e=.returned (.int .u64 (P2:Int))∧(Q2 w')) from cP w hp).mono ?_
        rintro e w ⟨rfl,hp⟩
        refine hKQ.out _ _ (t2 _ hp) (fun _=>?_)
        simp only [List.setIfInBounds_toArray,List.set]
        have hww:(fun w:World=>w.cell? ⟨gt,0,none⟩=some (.int .i64 D)∧w.cell? ⟨gt,2,none⟩=some (.pointer (some ⟨gs,0,none⟩))) w:=t2 _ hp
        refine tkP RA5OPSq32 (.int .u64 (P2:Int)) 32 hQ hww ?_
        simp only [List.set]
        exact wpAnyH_done (by kernel_rfl) (hfin  w hp) _
      exact AllReadyH.nil
    exact AllReadyH.nil
  have kst14_18_25:∀ (w:World),(Q0 w)→wpAnyH Tryz.prog .any z16 Q (fun w:World=>w.cell? ⟨gt,0,none⟩=some (.int .i64 D)∧w.cell? ⟨gt,2,none⟩=some (.pointer (some ⟨gs,0,none⟩))) 4 #[true,true,true,true,true,true,true,true,true,true,true,true,true,true,true,true,true,true,true,true,true,true,true,true,true,true,true,true,true,false,false,false,false] {tmps:=#[.pointer (some ⟨gt,0,none⟩),u1,u2,u3,u4,.int .u64 (P:Int),u6,u7,.int .u64 (K:Int),u9,u10,u11,u12,u13,u14,u15,u16,u17,u18,u19,u20,u21,u22,u23,u24,u25,u26,u27,u28,u29,.pointer (some ⟨gt,0,none⟩),.pointer (some ⟨gt,0,none⟩),.pointer (some ⟨gt,2,none⟩),.pointer (some ⟨gs,0,none⟩),.pointer (some ⟨gt,0,none⟩),.pointer (some ⟨gt,0,none⟩),.pointer (some ⟨gt,0,none⟩),.int .i64 D,.pointer (some ⟨gt,0,none⟩),.pointer (some ⟨gt,0,none⟩),.pointer (some ⟨gt,2,none⟩),.pointer (some ⟨gs,0,none⟩),.pointer (some ⟨gs,0,none⟩),.pointer (some ⟨gs,1,none⟩),.slice (some ⟨gn,0,none⟩) n c,.int .u64 (K:Int),.pointer (some ⟨gn,(K*34),none⟩),.pointer (some ⟨gn,(K*34),none⟩),.agg (z00 L).toArray,.pointer (some ⟨gt,0,none⟩),.pointer (some ⟨gt,0,none⟩),.pointer (some ⟨gt,2,none⟩),.pointer (some ⟨gs,0,none⟩),.pointer (some ⟨gs,0,none⟩),.pointer (some ⟨gs,1,none⟩),.slice (some ⟨gn,0,none⟩) n c,.int .u64 (P:Int),.pointer (some ⟨gn,(P*34),none⟩),.pointer (some ⟨gn,(P*34),none⟩),u59,u60,u61,u62,u63,u64,u65,u66,u67,u68,u69,u70,u71,u72,u73,u74,u75,u76,u77,u78,u79],defers:=[]} w:=fun  w hp=>by
    refine wpAnyH_ready (rs:=[29]) (by kernel_rfl) (by simp) ?_
    refine AllReadyH.cons (o:=RA5OPSq29) rfl (fun KQ hKQ=>?_) ?_
    · exact z0q (by rfl) (z1L (run_loadAt_mid (P:=Tryz.prog) w gn (P*34) 35 _ _ (rA w hp) Tryz.underlying35 rfl (z0u lA))) (have hp:(fun (w:World)=>(Q0 w))  w:=hp;hKQ.out _ _ (t0 _ hp) (fun _=>kst14_18_25_29  _ hp))
    exact AllReadyH.nil
  have kst14_25_29:∀ (w:World),(Q0 w)→wpAnyH Tryz.prog .any z16 Q (fun w:World=>w.cell? ⟨gt,0,none⟩=some (.int .i64 D)∧w.cell? ⟨gt,2,none⟩=some (.pointer (some ⟨gs,0,none⟩))) 4 #[true,true,true,true,true,true,true,true,true,true,true,true,true,true,true,true,true,true,false,true,true,true,true,true,true,true,true,true,true,true,false,false,false] {tmps:=#[.pointer (some ⟨gt,0,none⟩),u1,u2,u3,u4,.int .u64 (P:Int),u6,u7,.int .u64 (K:Int),u9,u10,u11,u12,u13,u14,u15,u16,u17,u18,u19,u20,u21,u22,u23,u24,u25,u26,u27,u28,u29,.pointer (some ⟨gt,0,none⟩),.pointer (some ⟨gt,0,none⟩),.pointer (some ⟨gt,2,none⟩),.pointer (some ⟨gs,0,none⟩),.pointer (some ⟨gt,0,none⟩),.pointer (some ⟨gt,0,none⟩),.pointer (some ⟨gt,0,none⟩),.int .i64 D,.pointer (some ⟨gt,0,none⟩),.pointer (some ⟨gt,0,none⟩),.pointer (some ⟨gt,2,none⟩),.pointer (some ⟨gs,0,none⟩),.pointer (some ⟨gs,0,none⟩),.pointer (some ⟨gs,1,none⟩),.slice (some ⟨gn,0,none⟩) n c,.int .u64 (K:Int),.pointer (some ⟨gn,(K*34),none⟩),.pointer (some ⟨gn,(K*34),none⟩),u48,.pointer (some ⟨gt,0,none⟩),.pointer (some ⟨gt,0,none⟩),.pointer (some ⟨gt,2,none⟩),.pointer (some ⟨gs,0,none⟩),.pointer (some ⟨gs,0,none⟩),.pointer (some ⟨gs,1,none⟩),.slice (some ⟨gn,0,none⟩) n c,.int .u64 (P:Int),.pointer (some ⟨gn,(P*34),none⟩),.pointer (some ⟨gn,(P*34),none⟩),.agg (z00 A).toArray,u60,u61,u62,u63,u64,u65,u66,u67,u68,u69,u70,u71,u72,u73,u74,u75,u76,u77,u78,u79],defers:=[]} w:=fun  w hp=>by
    refine wpAnyH_ready (rs:=[18]) (by kernel_rfl) (by simp) ?_
    refine AllReadyH.cons (o:=RA5OPSq18) rfl (fun KQ hKQ=>?_) ?_
    · exact z0q (by rfl) (z1L (run_loadAt_mid (P:=Tryz.prog) w gn (K*34) 35 _ _ (rL w hp) Tryz.underlying35 rfl (z0u lL))) (have hp:(fun (w:World)=>(Q0 w))  w:=hp;hKQ.out _ _ (t0 _ hp) (fun _=>kst14_18_25_29  _ hp))
    exact AllReadyH.nil
  have ekst14_18_25:∀ (w:World),(Q0 w)→wpAnyH Tryz.prog .any z16 Q (fun w:World=>w.cell? ⟨gt,0,none⟩=some (.int .i64 D)∧w.cell? ⟨gt,2,none⟩=some (.pointer (some ⟨gs,0,none⟩))) 6 #[true,true,true,true,true,true,true,true,true,true,true,true,true,true,true,true,true,true,true,true,true,true,true,true,true,true,true,false,false,false,false,false,false] {tmps:=#[.pointer (some ⟨gt,0,none⟩),u1,u2,u3,u4,.int .u64 (P:Int),u6,u7,.int .u64 (K:Int),u9,u10,u11,u12,u13,u14,u15,u16,u17,u18,u19,u20,u21,u22,u23,u24,u25,u26,u27,u28,u29,.pointer (some ⟨gt,0,none⟩),.pointer (some ⟨gt,0,none⟩),.pointer (some ⟨gt,2,none⟩),.pointer (some ⟨gs,0,none⟩),.pointer (some ⟨gt,0,none⟩),.pointer (some ⟨gt,0,none⟩),.pointer (some ⟨gt,0,none⟩),.int .i64 D,.pointer (some ⟨gt,0,none⟩),.pointer (some ⟨gt,0,none⟩),.pointer (some ⟨gt,2,none⟩),.pointer (some ⟨gs,0,none⟩),.pointer (some ⟨gs,0,none⟩),.pointer (some ⟨gs,1,none⟩),.slice (some ⟨gn,0,none⟩) n c,.int .u64 (K:Int),.pointer (some ⟨gn,(K*34),none⟩),.pointer (some ⟨gn,(K*34),none⟩),.agg (z00 L).toArray,.pointer (some ⟨gt,0,none⟩),.pointer (some ⟨gt,0,none⟩),.pointer (some ⟨gt,2,none⟩),.pointer (some ⟨gs,0,none⟩),.pointer (some ⟨gs,0,none⟩),.pointer (some ⟨gs,1,none⟩),.slice (some ⟨gn,0,none⟩) n c,.int .u64 (P:Int),u57,u58,u59,u60,u61,u62,u63,u64,u65,u66,u67,u68,u69,u70,u71,u72,u73,u74,u75,u76,u77,u78,u79],defers:=[]} w:=fun  w hp=>by
    have hww:(fun w:World=>w.cell? ⟨gt,0,none⟩=some (.int .i64 D)∧w.cell? ⟨gt,2,none⟩=some (.pointer (some ⟨gs,0,none⟩))) w:=t0 _ hp
    have last:=kst14_18_25  w hp
    refine tkP RA5OPSq27 (.pointer (some ⟨gn,(P*34),none⟩)) 27 hQ hww ?_
    simp only [List.set]
    refine tkP RA5OPSq28 (.pointer (some ⟨gn,(P*34),none⟩)) 28 hQ hww ?_
    simp only [List.set]
    exact last
  have kst14_18:∀ (w:World),(Q0 w)→wpAnyH Tryz.prog .any z16 Q (fun w:World=>w.cell? ⟨gt,0,none⟩=some (.int .i64 D)∧w.cell? ⟨gt,2,none⟩=some (.pointer (some ⟨gs,0,none⟩))) 7 #[true,true,true,true,true,true,true,true,true,true,true,true,true,true,true,true,true,true,true,true,true,true,true,true,true,false,true,false,false,false,false,false,false] {tmps:=#[.pointer (some ⟨gt,0,none⟩),u1,u2,u3,u4,.int .u64 (P:Int),u6,u7,.int .u64 (K:Int),u9,u10,u11,u12,u13,u14,u15,u16,u17,u18,u19,u20,u21,u22,u23,u24,u25,u26,u27,u28,u29,.pointer (some ⟨gt,0,none⟩),.pointer (some ⟨gt,0,none⟩),.pointer (some ⟨gt,2,none⟩),.pointer (some ⟨gs,0,none⟩),.pointer (some ⟨gt,0,none⟩),.pointer (some ⟨gt,0,none⟩),.pointer (some ⟨gt,0,none⟩),.int .i64 D,.pointer (some ⟨gt,0,none⟩),.pointer (some ⟨gt,0,none⟩),.pointer (some ⟨gt,2,none⟩),.pointer (some ⟨gs,0,none⟩),.pointer (some ⟨gs,0,none⟩),.pointer (some ⟨gs,1,none⟩),.slice (some ⟨gn,0,none⟩) n c,.int .u64 (K:Int),.pointer (some ⟨gn,(K*34),none⟩),.pointer (some ⟨gn,(K*34),none⟩),.agg (z00 L).toArray,.pointer (some ⟨gt,0,none⟩),.pointer (some ⟨gt,0,none⟩),.pointer (some ⟨gt,2,none⟩),.pointer (some ⟨gs,0,none⟩),.pointer (some ⟨gs,0,none⟩),.pointer (some ⟨gs,1,none⟩),u55,.int .u64 (P:Int),u57,u58,u59,u60,u61,u62,u63,u64,u65,u66,u67,u68,u69,u70,u71,u72,u73,u74,u75,u76,u77,u78,u79],defers:=[]} w:=fun  w hp=>by
    refine wpAnyH_ready (rs:=[25]) (by kernel_rfl) (by simp) ?_
    refine AllReadyH.cons (o:=RA5OPSq25) rfl (fun KQ hKQ=>?_) ?_
    · exact z0q (by rfl) (by have hx:=c0 _ hp;go_simp) (have hp:(fun (w:World)=>(Q0 w))  w:=hp;hKQ.out _ _ (t0 _ hp) (fun _=>ekst14_18_25  _ hp))
    exact AllReadyH.nil
  have kst14_25:∀ (w:World),(Q0 w)→wpAnyH Tryz.prog .any z16 Q (fun w:World=>w.cell? ⟨gt,0,none⟩=some (.int .i64 D)∧w.cell? ⟨gt,2,none⟩=some (.pointer (some ⟨gs,0,none⟩))) 5 #[true,true,true,true,true,true,true,true,true,true,true,true,true,true,true,true,true,true,false,true,true,true,true,true,true,true,true,true,true,false,false,false,false] {tmps:=#[.pointer (some ⟨gt,0,none⟩),u1,u2,u3,u4,.int .u64 (P:Int),u6,u7,.int .u64 (K:Int),u9,u10,u11,u12,u13,u14,u15,u16,u17,u18,u19,u20,u21,u22,u23,u24,u25,u26,u27,u28,u29,.pointer (some ⟨gt,0,none⟩),.pointer (some ⟨gt,0,none⟩),.pointer (some ⟨gt,2,none⟩),.pointer (some ⟨gs,0,none⟩),.pointer (some ⟨gt,0,none⟩),.pointer (some ⟨gt,0,none⟩),.pointer (some ⟨gt,0,none⟩),.int .i64 D,.pointer (some ⟨gt,0,none⟩),.pointer (some ⟨gt,0,none⟩),.pointer (some ⟨gt,2,none⟩),.pointer (some ⟨gs,0,none⟩),.pointer (some ⟨gs,0,none⟩),.pointer (some ⟨gs,1,none⟩),.slice (some ⟨gn,0,none⟩) n c,.int .u64 (K:Int),.pointer (some ⟨gn,(K*34),none⟩),.pointer (some ⟨gn,(K*34),none⟩),u48,.pointer (some ⟨gt,0,none⟩),.pointer (some ⟨gt,0,none⟩),.pointer (some ⟨gt,2,none⟩),.pointer (some ⟨gs,0,none⟩),.pointer (some ⟨gs,0,none⟩),.pointer (some ⟨gs,1,none⟩),.slice (some ⟨gn,0,none⟩) n c,.int .u64 (P:Int),.pointer (some ⟨gn,(P*34),none⟩),.pointer (some ⟨gn,(P*34),none⟩),u59,u60,u61,u62,u63,u64,u65,u66,u67,u68,u69,u70,u71,u72,u73,u74,u75,u76,u77,u78,u79],defers:=[]} w:=fun  w hp=>by
    refine wpAnyH_ready (rs:=[18,29]) (by kernel_rfl) (by simp) ?_
    refine AllReadyH.cons (o:=RA5OPSq18) rfl (fun KQ hKQ=>?_) ?_
    · exact z0q (by rfl) (z1L (run_loadAt_mid (P:=Tryz.prog) w gn (K*34) 35 _ _ (rL w hp) Tryz.underlying35 rfl (z0u lL))) (have hp:(fun (w:World)=>(Q0 w))  w:=hp;hKQ.out _ _ (t0 _ hp) (fun _=>kst14_18_25  _ hp))
    refine AllReadyH.cons (o:=RA5OPSq29) rfl (fun KQ hKQ=>?_) ?_
    · exact z0q (by rfl) (z1L (run_loadAt_mid (P:=Tryz.prog) w gn (P*34) 35 _ _ (rA w hp) Tryz.underlying35 rfl (z0u lA))) (have hp:(fun (w:World)=>(Q0 w))  w:=hp;hKQ.out _ _ (t0 _ hp) (fun _=>kst14_25_29  _ hp))
    exact AllReadyH.nil
  have ekst25_29_14:∀ (w:World),(Q0 w)→wpAnyH Tryz.prog .any z16 Q (fun w:World=>w.cell? ⟨gt,0,none⟩=some (.int .i64 D)∧w.cell? ⟨gt,2,none⟩=some (.pointer (some ⟨gs,0,none⟩))) 6 #[true,true,true,true,true,true,true,true,true,true,true,true,true,true,true,true,false,false,false,true,true,true,true,true,true,true,true,true,true,true,false,false,false] {tmps:=#[.pointer (some ⟨gt,0,none⟩),u1,u2,u3,u4,.int .u64 (P:Int),u6,u7,.int .u64 (K:Int),u9,u10,u11,u12,u13,u14,u15,u16,u17,u18,u19,u20,u21,u22,u23,u24,u25,u26,u27,u28,u29,.pointer (some ⟨gt,0,none⟩),.pointer (some ⟨gt,0,none⟩),.pointer (some ⟨gt,2,none⟩),.pointer (some ⟨gs,0,none⟩),.pointer (some ⟨gt,0,none⟩),.pointer (some ⟨gt,0,none⟩),.pointer (some ⟨gt,0,none⟩),.int .i64 D,.pointer (some ⟨gt,0,none⟩),.pointer (some ⟨gt,0,none⟩),.pointer (some ⟨gt,2,none⟩),.pointer (some ⟨gs,0,none⟩),.pointer (some ⟨gs,0,none⟩),.pointer (some ⟨gs,1,none⟩),.slice (some ⟨gn,0,none⟩) n c,.int .u64 (K:Int),u46,u47,u48,.pointer (some ⟨gt,0,none⟩),.pointer (some ⟨gt,0,none⟩),.pointer (some ⟨gt,2,none⟩),.pointer (some ⟨gs,0,none⟩),.pointer (some ⟨gs,0,none⟩),.pointer (some ⟨gs,1,none⟩),.slice (some ⟨gn,0,none⟩) n c,.int .u64 (P:Int),.pointer (some ⟨gn,(P*34),none⟩),.pointer (some ⟨gn,(P*34),none⟩),.agg (z00 A).toArray,u60,u61,u62,u63,u64,u65,u66,u67,u68,u69,u70,u71,u72,u73,u74,u75,u76,u77,u78,u79],defers:=[]} w:=fun  w hp=>by
    have hww:(fun w:World=>w.cell? ⟨gt,0,none⟩=some (.int .i64 D)∧w.cell? ⟨gt,2,none⟩=some (.pointer (some ⟨gs,0,none⟩))) w:=t0 _ hp
    have last:=kst14_25_29  w hp
    refine tkP RA5OPSq16 (.pointer (some ⟨gn,(K*34),none⟩)) 16 hQ hww ?_
    simp only [List.set]
    refine tkP RA5OPSq17 (.pointer (some ⟨gn,(K*34),none⟩)) 17 hQ hww ?_
    simp only [List.set]
    exact last
  have kst25_29:∀ (w:World),(Q0 w)→wpAnyH Tryz.prog .any z16 Q (fun w:World=>w.cell? ⟨gt,0,none⟩=some (.int .i64 D)∧w.cell? ⟨gt,2,none⟩=some (.pointer (some ⟨gs,0,none⟩))) 7 #[true,true,true,true,true,true,true,true,true,true,true,true,true,true,false,true,false,false,false,true,true,true,true,true,true,true,true,true,true,true,false,false,false] {tmps:=#[.pointer (some ⟨gt,0,none⟩),u1,u2,u3,u4,.int .u64 (P:Int),u6,u7,.int .u64 (K:Int),u9,u10,u11,u12,u13,u14,u15,u16,u17,u18,u19,u20,u21,u22,u23,u24,u25,u26,u27,u28,u29,.pointer (some ⟨gt,0,none⟩),.pointer (some ⟨gt,0,none⟩),.pointer (some ⟨gt,2,none⟩),.pointer (some ⟨gs,0,none⟩),.pointer (some ⟨gt,0,none⟩),.pointer (some ⟨gt,0,none⟩),.pointer (some ⟨gt,0,none⟩),.int .i64 D,.pointer (some ⟨gt,0,none⟩),.pointer (some ⟨gt,0,none⟩),.pointer (some ⟨gt,2,none⟩),.pointer (some ⟨gs,0,none⟩),.pointer (some ⟨gs,0,none⟩),.pointer (some ⟨gs,1,none⟩),u44,.int .u64 (K:Int),u46,u47,u48,.pointer (some ⟨gt,0,none⟩),.pointer (some ⟨gt,0,none⟩),.pointer (some ⟨gt,2,none⟩),.pointer (some ⟨gs,0,none⟩),.pointer (some ⟨gs,0,none⟩),.pointer (some ⟨gs,1,none⟩),.slice (some ⟨gn,0,none⟩) n c,.int .u64 (P:Int),.pointer (some ⟨gn,(P*34),none⟩),.pointer (some ⟨gn,(P*34),none⟩),.agg (z00 A).toArray,u60,u61,u62,u63,u64,u65,u66,u67,u68,u69,u70,u71,u72,u73,u74,u75,u76,u77,u78,u79],defers:=[]} w:=fun  w hp=>by
    refine wpAnyH_ready (rs:=[14]) (by kernel_rfl) (by simp) ?_
    refine AllReadyH.cons (o:=RA5OPSq14) rfl (fun KQ hKQ=>?_) ?_
    · exact z0q (by rfl) (by have hx:=c0 _ hp;go_simp) (have hp:(fun (w:World)=>(Q0 w))  w:=hp;hKQ.out _ _ (t0 _ hp) (fun _=>ekst25_29_14  _ hp))
    exact AllReadyH.nil
  have ekst14_25:∀ (w:World),(Q0 w)→wpAnyH Tryz.prog .any z16 Q (fun w:World=>w.cell? ⟨gt,0,none⟩=some (.int .i64 D)∧w.cell? ⟨gt,2,none⟩=some (.pointer (some ⟨gs,0,none⟩))) 7 #[true,true,true,true,true,true,true,true,true,true,true,true,true,true,true,true,true,true,false,true,true,true,true,true,true,true,true,false,false,false,false,false,false] {tmps:=#[.pointer (some ⟨gt,0,none⟩),u1,u2,u3,u4,.int .u64 (P:Int),u6,u7,.int .u64 (K:Int),u9,u10,u11,u12,u13,u14,u15,u16,u17,u18,u19,u20,u21,u22,u23,u24,u25,u26,u27,u28,u29,.pointer (some ⟨gt,0,none⟩),.pointer (some ⟨gt,0,none⟩),.pointer (some ⟨gt,2,none⟩),.pointer (some ⟨gs,0,none⟩),.pointer (some ⟨gt,0,none⟩),.pointer (some ⟨gt,0,none⟩),.pointer (some ⟨gt,0,none⟩),.int .i64 D,.pointer (some ⟨gt,0,none⟩),.pointer (some ⟨gt,0,none⟩),.pointer (some ⟨gt,2,none⟩),.pointer (some ⟨gs,0,none⟩),.pointer (some ⟨gs,0,none⟩),.pointer (some ⟨gs,1,none⟩),.slice (some ⟨gn,0,none⟩) n c,.int .u64 (K:Int),.pointer (some ⟨gn,(K*34),none⟩),.pointer (some ⟨gn,(K*34),none⟩),u48,.pointer (some ⟨gt,0,none⟩),.pointer (some ⟨gt,0,none⟩),.pointer (some ⟨gt,2,none⟩),.pointer (some ⟨gs,0,none⟩),.pointer (some ⟨gs,0,none⟩),.pointer (some ⟨gs,1,none⟩),.slice (some ⟨gn,0,none⟩) n c,.int .u64 (P:Int),u57,u58,u59,u60,u61,u62,u63,u64,u65,u66,u67,u68,u69,u70,u71,u72,u73,u74,u75,u76,u77,u78,u79],defers:=[]} w:=fun  w hp=>by
    have hww:(fun w:World=>w.cell? ⟨gt,0,none⟩=some (.int .i64 D)∧w.cell? ⟨gt,2,none⟩=some (.pointer (some ⟨gs,0,none⟩))) w:=t0 _ hp
    have last:=kst14_25  w hp
    refine tkP RA5OPSq27 (.pointer (some ⟨gn,(P*34),none⟩)) 27 hQ hww ?_
    simp only [List.set]
    refine tkP RA5OPSq28 (.pointer (some ⟨gn,(P*34),none⟩)) 28 hQ hww ?_
    simp only [List.set]
    exact last
  have ekst25_14:∀ (w:World),(Q0 w)→wpAnyH Tryz.prog .any z16 Q (fun w:World=>w.cell? ⟨gt,0,none⟩=some (.int .i64 D)∧w.cell? ⟨gt,2,none⟩=some (.pointer (some ⟨gs,0,none⟩))) 7 #[true,true,true,true,true,true,true,true,true,true,true,true,true,true,true,true,false,false,false,true,true,true,true,true,true,true,true,true,true,false,false,false,false] {tmps:=#[.pointer (some ⟨gt,0,none⟩),u1,u2,u3,u4,.int .u64 (P:Int),u6,u7,.int .u64 (K:Int),u9,u10,u11,u12,u13,u14,u15,u16,u17,u18,u19,u20,u21,u22,u23,u24,u25,u26,u27,u28,u29,.pointer (some ⟨gt,0,none⟩),.pointer (some ⟨gt,0,none⟩),.pointer (some ⟨gt,2,none⟩),.pointer (some ⟨gs,0,none⟩),.pointer (some ⟨gt,0,none⟩),.pointer (some ⟨gt,0,none⟩),.pointer (some ⟨gt,0,none⟩),.int .i64 D,.pointer (some ⟨gt,0,none⟩),.pointer (some ⟨gt,0,none⟩),.pointer (some ⟨gt,2,none⟩),.pointer (some ⟨gs,0,none⟩),.pointer (some ⟨gs,0,none⟩),.pointer (some ⟨gs,1,none⟩),.slice (some ⟨gn,0,none⟩) n c,.int .u64 (K:Int),u46,u47,u48,.pointer (some ⟨gt,0,none⟩),.pointer (some ⟨gt,0,none⟩),.pointer (some ⟨gt,2,none⟩),.pointer (some ⟨gs,0,none⟩),.pointer (some ⟨gs,0,none⟩),.pointer (some ⟨gs,1,none⟩),.slice (some ⟨gn,0,none⟩) n c,.int .u64 (P:Int),.pointer (some ⟨gn,(P*34),none⟩),.pointer (some ⟨gn,(P*34),none⟩),u59,u60,u61,u62,u63,u64,u65,u66,u67,u68,u69,u70,u71,u72,u73,u74,u75,u76,u77,u78,u79],defers:=[]} w:=fun  w hp=>by
    have hww:(fun w:World=>w.cell? ⟨gt,0,none⟩=some (.int .i64 D)∧w.cell? ⟨gt,2,none⟩=some (.pointer (some ⟨gs,0,none⟩))) w:=t0 _ hp
    have last:=kst14_25  w hp
    refine tkP RA5OPSq16 (.pointer (some ⟨gn,(K*34),none⟩)) 16 hQ hww ?_
    simp only [List.set]
    refine tkP RA5OPSq17 (.pointer (some ⟨gn,(K*34),none⟩)) 17 hQ hww ?_
    simp only [List.set]
    exact last
  have ekst_14:∀ (w:World),(Q0 w)→wpAnyH Tryz.prog .any z16 Q (fun w:World=>w.cell? ⟨gt,0,none⟩=some (.int .i64 D)∧w.cell? ⟨gt,2,none⟩=some (.pointer (some ⟨gs,0,none⟩))) 10 #[true,true,true,true,true,true,true,true,true,true,true,true,true,true,true,true,false,false,false,true,true,true,true,true,true,false,true,false,false,false,false,false,false] {tmps:=#[.pointer (some ⟨gt,0,none⟩),u1,u2,u3,u4,.int .u64 (P:Int),u6,u7,.int .u64 (K:Int),u9,u10,u11,u12,u13,u14,u15,u16,u17,u18,u19,u20,u21,u22,u23,u24,u25,u26,u27,u28,u29,.pointer (some ⟨gt,0,none⟩),.pointer (some ⟨gt,0,none⟩),.pointer (some ⟨gt,2,none⟩),.pointer (some ⟨gs,0,none⟩),.pointer (some ⟨gt,0,none⟩),.pointer (some ⟨gt,0,none⟩),.pointer (some ⟨gt,0,none⟩),.int .i64 D,.pointer (some ⟨gt,0,none⟩),.pointer (some ⟨gt,0,none⟩),.pointer (some ⟨gt,2,none⟩),.pointer (some ⟨gs,0,none⟩),.pointer (some ⟨gs,0,none⟩),.pointer (some ⟨gs,1,none⟩),.slice (some ⟨gn,0,none⟩) n c,.int .u64 (K:Int),u46,u47,u48,.pointer (some ⟨gt,0,none⟩),.pointer (some ⟨gt,0,none⟩),.pointer (some ⟨gt,2,none⟩),.pointer (some ⟨gs,0,none⟩),.pointer (some ⟨gs,0,none⟩),.pointer (some ⟨gs,1,none⟩),u55,.int .u64 (P:Int),u57,u58,u59,u60,u61,u62,u63,u64,u65,u66,u67,u68,u69,u70,u71,u72,u73,u74,u75,u76,u77,u78,u79],defers:=[]} w:=fun  w hp=>by
    have hww:(fun w:World=>w.cell? ⟨gt,0,none⟩=some (.int .i64 D)∧w.cell? ⟨gt,2,none⟩=some (.pointer (some ⟨gs,0,none⟩))) w:=t0 _ hp
    refine tkP RA5OPSq16 (.pointer (some ⟨gn,(K*34),none⟩)) 16 hQ hww ?_
    simp only [List.set]
    refine tkP RA5OPSq17 (.pointer (some ⟨gn,(K*34),none⟩)) 17 hQ hww ?_
    simp only [List.set]
    refine wpAnyH_ready (rs:=[18,25]) (by kernel_rfl) (by simp) ?_
    refine AllReadyH.cons (o:=RA5OPSq18) rfl (fun KQ hKQ=>?_) ?_
    · exact z0q (by rfl) (z1L (run_loadAt_mid (P:=Tryz.prog) w gn (K*34) 35 _ _ (rL w hp) Tryz.underlying35 rfl (z0u lL))) (have hp:(fun (w:World)=>(Q0 w))  w:=hp;hKQ.out _ _ (t0 _ hp) (fun _=>kst14_18  _ hp))
    refine AllReadyH.cons (o:=RA5OPSq25) rfl (fun KQ hKQ=>?_) ?_
    · exact z0q (by rfl) (by have hx:=c0 _ hp;go_simp) (have hp:(fun (w:World)=>(Q0 w))  w:=hp;hKQ.out _ _ (t0 _ hp) (fun _=>ekst14_25  _ hp))
    exact AllReadyH.nil
  have ekst_25:∀ (w:World),(Q0 w)→wpAnyH Tryz.prog .any z16 Q (fun w:World=>w.cell? ⟨gt,0,none⟩=some (.int .i64 D)∧w.cell? ⟨gt,2,none⟩=some (.pointer (some ⟨gs,0,none⟩))) 10 #[true,true,true,true,true,true,true,true,true,true,true,true,true,true,false,true,false,false,false,true,true,true,true,true,true,true,true,false,false,false,false,false,false] {tmps:=#[.pointer (some ⟨gt,0,none⟩),u1,u2,u3,u4,.int .u64 (P:Int),u6,u7,.int .u64 (K:Int),u9,u10,u11,u12,u13,u14,u15,u16,u17,u18,u19,u20,u21,u22,u23,u24,u25,u26,u27,u28,u29,.pointer (some ⟨gt,0,none⟩),.pointer (some ⟨gt,0,none⟩),.pointer (some ⟨gt,2,none⟩),.pointer (some ⟨gs,0,none⟩),.pointer (some ⟨gt,0,none⟩),.pointer (some ⟨gt,0,none⟩),.pointer (some ⟨gt,0,none⟩),.int .i64 D,.pointer (some ⟨gt,0,none⟩),.pointer (some ⟨gt,0,none⟩),.pointer (some ⟨gt,2,none⟩),.pointer (some ⟨gs,0,none⟩),.pointer (some ⟨gs,0,none⟩),.pointer (some ⟨gs,1,none⟩),u44,.int .u64 (K:Int),u46,u47,u48,.pointer (some ⟨gt,0,none⟩),.pointer (some ⟨gt,0,none⟩),.pointer (some ⟨gt,2,none⟩),.pointer (some ⟨gs,0,none⟩),.pointer (some ⟨gs,0,none⟩),.pointer (some ⟨gs,1,none⟩),.slice (some ⟨gn,0,none⟩) n c,.int .u64 (P:Int),u57,u58,u59,u60,u61,u62,u63,u64,u65,u66,u67,u68,u69,u70,u71,u72,u73,u74,u75,u76,u77,u78,u79],defers:=[]} w:=fun  w hp=>by
    have hww:(fun w:World=>w.cell? ⟨gt,0,none⟩=some (.int .i64 D)∧w.cell? ⟨gt,2,none⟩=some (.pointer (some ⟨gs,0,none⟩))) w:=t0 _ hp
    refine tkP RA5OPSq27 (.pointer (some ⟨gn,(P*34),none⟩)) 27 hQ hww ?_
    simp only [List.set]
    refine tkP RA5OPSq28 (.pointer (some ⟨gn,(P*34),none⟩)) 28 hQ hww ?_
    simp only [List.set]
    refine wpAnyH_ready (rs:=[14,29]) (by kernel_rfl) (by simp) ?_
    refine AllReadyH.cons (o:=RA5OPSq14) rfl (fun KQ hKQ=>?_) ?_
    · exact z0q (by rfl) (by have hx:=c0 _ hp;go_simp) (have hp:(fun (w:World)=>(Q0 w))  w:=hp;hKQ.out _ _ (t0 _ hp) (fun _=>ekst25_14  _ hp))
    refine AllReadyH.cons (o:=RA5OPSq29) rfl (fun KQ hKQ=>?_) ?_
    · exact z0q (by rfl) (z1L (run_loadAt_mid (P:=Tryz.prog) w gn (P*34) 35 _ _ (rA w hp) Tryz.underlying35 rfl (z0u lA))) (have hp:(fun (w:World)=>(Q0 w))  w:=hp;hKQ.out _ _ (t0 _ hp) (fun _=>kst25_29  _ hp))
    exact AllReadyH.nil
  have kst:∀ (w:World),(Q0 w)→wpAnyH Tryz.prog .any z16 Q (fun w:World=>w.cell? ⟨gt,0,none⟩=some (.int .i64 D)∧w.cell? ⟨gt,2,none⟩=some (.pointer (some ⟨gs,0,none⟩))) 11 #[true,true,true,true,true,true,true,true,true,true,true,true,true,true,false,true,false,false,false,true,true,true,true,true,true,false,true,false,false,false,false,false,false] {tmps:=#[.pointer (some ⟨gt,0,none⟩),u1,u2,u3,u4,.int .u64 (P:Int),u6,u7,.int .u64 (K:Int),u9,u10,u11,u12,u13,u14,u15,u16,u17,u18,u19,u20,u21,u22,u23,u24,u25,u26,u27,u28,u29,.pointer (some ⟨gt,0,none⟩),.pointer (some ⟨gt,0,none⟩),.pointer (some ⟨gt,2,none⟩),.pointer (some ⟨gs,0,none⟩),.pointer (some ⟨gt,0,none⟩),.pointer (some ⟨gt,0,none⟩),.pointer (some ⟨gt,0,none⟩),.int .i64 D,.pointer (some ⟨gt,0,none⟩),.pointer (some ⟨gt,0,none⟩),.pointer (some ⟨gt,2,none⟩),.pointer (some ⟨gs,0,none⟩),.pointer (some ⟨gs,0,none⟩),.pointer (some ⟨gs,1,none⟩),u44,.int .u64 (K:Int),u46,u47,u48,.pointer (some ⟨gt,0,none⟩),.pointer (some ⟨gt,0,none⟩),.pointer (some ⟨gt,2,none⟩),.pointer (some ⟨gs,0,none⟩),.pointer (some ⟨gs,0,none⟩),.pointer (some ⟨gs,1,none⟩),u55,.int .u64 (P:Int),u57,u58,u59,u60,u61,u62,u63,u64,u65,u66,u67,u68,u69,u70,u71,u72,u73,u74,u75,u76,u77,u78,u79],defers:=[]} w:=fun  w hp=>by
    refine wpAnyH_ready (rs:=[14,25]) (by kernel_rfl) (by simp) ?_
    refine AllReadyH.cons (o:=RA5OPSq14) rfl (fun KQ hKQ=>?_) ?_
    · exact z0q (by rfl) (by have hx:=c0 _ hp;go_simp) (have hp:(fun (w:World)=>(Q0 w))  w:=hp;hKQ.out _ _ (t0 _ hp) (fun _=>ekst_14  _ hp))
    refine AllReadyH.cons (o:=RA5OPSq25) rfl (fun KQ hKQ=>?_) ?_
    · exact z0q (by rfl) (by have hx:=c0 _ hp;go_simp) (have hp:(fun (w:World)=>(Q0 w))  w:=hp;hKQ.out _ _ (t0 _ hp) (fun _=>ekst_25  _ hp))
    exact AllReadyH.nil
  have hp:=h0
  have hww:(fun w:World=>w.cell? ⟨gt,0,none⟩=some (.int .i64 D)∧w.cell? ⟨gt,2,none⟩=some (.pointer (some ⟨gs,0,none⟩))) W.drew:=t0 _ hp
  have last:=kst W.drew hp
  have z:wpAnyH Tryz.prog .any z16 Q (fun w:World=>w.cell? ⟨gt,0,none⟩=some (.int .i64 D)∧w.cell? ⟨gt,2,none⟩=some (.pointer (some ⟨gs,0,none⟩))) 33 #[false,false,false,false,false,false,false,false,false,false,false,false,false,false,false,false,false,false,false,false,false,false,false,false,false,false,false,false,false,false,false,false,false] {tmps:=#[.pointer (some ⟨gt,0,none⟩),u1,u2,u3,u4,.int .u64 (P:Int),u6,u7,.int .u64 (K:Int),u9,u10,u11,u12,u13,u14,u15,u16,u17,u18,u19,u20,u21,u22,u23,u24,u25,u26,u27,u28,u29,u30,u31,u32,u33,u34,u35,u36,u37,u38,u39,u40,u41,u42,u43,u44,u45,u46,u47,u48,u49,u50,u51,u52,u53,u54,u55,u56,u57,u58,u59,u60,u61,u62,u63,u64,u65,u66,u67,u68,u69,u70,u71,u72,u73,u74,u75,u76,u77,u78,u79],defers:=[]} W.drew:=by
    refine tkP RA5OPSq0 (.pointer (some ⟨gt,0,none⟩)) 0 hQ hww ?_
    simp only [List.set]
    refine tkP RA5OPSq1 (.pointer (some ⟨gt,0,none⟩)) 1 hQ hww ?_
    simp only [List.set]
    refine tkP RA5OPSq2 (.pointer (some ⟨gt,2,none⟩)) 2 hQ hww ?_
    simp only [List.set]
    refine tkH RA5OPSq3 (.pointer (some ⟨gs,0,none⟩)) 3 hQ (Or.inl ⟨by rfl,fun w hw=>by have hx:=hw.2;go_simp⟩) hww ?_
    simp only [List.set]
    refine tkP RA5OPSq4 (.pointer (some ⟨gt,0,none⟩)) 4 hQ hww ?_
    simp only [List.set]
    refine tkP RA5OPSq5 (.pointer (some ⟨gt,0,none⟩)) 5 hQ hww ?_
    simp only [List.set]
    refine tkP RA5OPSq6 (.pointer (some ⟨gt,0,none⟩)) 6 hQ hww ?_
    simp only [List.set]
    refine tkH RA5OPSq7 (.int .i64 D) 7 hQ (Or.inl ⟨by rfl,fun w hw=>by have hx:=hw.1;go_simp⟩) hww ?_
    simp only [List.set]
    refine tkP RA5OPSq8 (.pointer (some ⟨gt,0,none⟩)) 8 hQ hww ?_
    simp only [List.set]
    refine tkP RA5OPSq9 (.pointer (some ⟨gt,0,none⟩)) 9 hQ hww ?_
    simp only [List.set]
    refine tkP RA5OPSq10 (.pointer (some ⟨gt,2,none⟩)) 10 hQ hww ?_
    simp only [List.set]
    refine tkH RA5OPSq11 (.pointer (some ⟨gs,0,none⟩)) 11 hQ (Or.inl ⟨by rfl,fun w hw=>by have hx:=hw.2;go_simp⟩) hww ?_
    simp only [List.set]
    refine tkP RA5OPSq12 (.pointer (some ⟨gs,0,none⟩)) 12 hQ hww ?_
    simp only [List.set]
    refine tkP RA5OPSq13 (.pointer (some ⟨gs,1,none⟩)) 13 hQ hww ?_
    simp only [List.set]
    refine tkP RA5OPSq15 (.int .u64 (K:Int)) 15 hQ hww ?_
    simp only [List.set]
    refine tkP RA5OPSq19 (.pointer (some ⟨gt,0,none⟩)) 19 hQ hww ?_
    simp only [List.set]
    refine tkP RA5OPSq20 (.pointer (some ⟨gt,0,none⟩)) 20 hQ hww ?_
    simp only [List.set]
    refine tkP RA5OPSq21 (.pointer (some ⟨gt,2,none⟩)) 21 hQ hww ?_
    simp only [List.set]
    refine tkH RA5OPSq22 (.pointer (some ⟨gs,0,none⟩)) 22 hQ (Or.inl ⟨by rfl,fun w hw=>by have hx:=hw.2;go_simp⟩) hww ?_
    simp only [List.set]
    refine tkP RA5OPSq23 (.pointer (some ⟨gs,0,none⟩)) 23 hQ hww ?_
    simp only [List.set]
    refine tkP RA5OPSq24 (.pointer (some ⟨gs,1,none⟩)) 24 hQ hww ?_
    simp only [List.set]
    refine tkP RA5OPSq26 (.int .u64 (P:Int)) 26 hQ hww ?_
    simp only [List.set]
    exact last
  exact wp_region_held_drew (S:=(fun w:World=>w.cell? ⟨gt,0,none⟩=some (.int .i64 D)∧w.cell? ⟨gt,2,none⟩=some (.pointer (some ⟨gs,0,none⟩)))) (by kernel_rfl) hww (fun _=>z)
end Go.Proofs.YtnmalbngdhjhjaaGreatDoor
