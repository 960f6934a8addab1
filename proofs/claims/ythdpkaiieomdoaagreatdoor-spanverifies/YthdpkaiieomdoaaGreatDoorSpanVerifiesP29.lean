/- Texts of SpanVerifies, one behind the other: SpanOverRegions. -/
import Derived.Test.YthdpkaiieomdoaaGreatDoorSpanVerifiesP18
namespace Go.Proofs.YthdpkaiieomdoaaGreatDoor
set_option linter.unusedSimpArgs false
open Go.RowKit
set_option maxRecDepth 100000
theorem z2F {w:World} {g:Nat} {cs:Array Value} {a1 a2:Option Addr} {n1 n2 c1 c2:Nat} (h:Has w g cs 72) (hc:cs.size=2):(Instr.storeAt 72 (.pointer (some ⟨g,0,none⟩)) (.agg #[.slice a1 n1 c1,.slice a2 n2 c2])).run Tryz.prog w=.ok () (w.setRow g #[.slice a1 n1 c1,.slice a2 n2 c2]):=by
  simp only [Instr.storeAt,Instr.sureAddr,Sem.run_bind,Sem.run_pure,Result.andThen]
  exact run_storeVar_row w g 72 72 cs _ h (by kernel_rfl) (by rw [hc];rfl) (by simp [go_sem,Value.oneCell'])
theorem zce {w:World} {g:Nat} {a1 a2:Option Addr} {n1 n2 c1 c2:Nat} (h:Has w g #[.slice a1 n1 c1,.slice a2 n2 c2] 72):(Instr.loadAt 72 (.pointer (some ⟨g,0,none⟩))).run Tryz.prog w=.ok (.agg #[.slice a1 n1 c1,.slice a2 n2 c2]) w:=by
  have x:=h.cell 0
  have y:=h.cell 1
  simp only [Instr.loadAt,Instr.sureAddr,Sem.run_bind,Sem.run_pure,Result.andThen]
  exact run_loadVar_row w g 72 72 _ (0,0) _ h Tryz.underlying72 rfl (by kernel_rfl)
@[go_sem] def SO2OPSq0:Oper:=⟨some 19,.fieldAddr 72 (.tmp 9) 1,0,"ref.go:121",#[],none⟩
@[go_sem] def SO2OPSq1:Oper:=⟨some 20,.load 25 (.tmp 19),25,"ref.go:121",#[⟨0,.data⟩],none⟩
@[go_sem] def SO2OPSq2:Oper:=⟨some 21,.indexAddr 25 (.tmp 20) (.const (.int .i64 0)),0,"ref.go:121",#[⟨1,.data⟩],none⟩
@[go_sem] def SO2OPSq3:Oper:=⟨some 22,.load 23 (.tmp 21),23,"ref.go:121",#[⟨2,.data⟩],none⟩
@[go_sem] def SO2OPSq4:Oper:=⟨some 23,.fieldAddr 72 (.tmp 9) 0,0,"ref.go:121",#[{on:=10,ground:=.gcOnly Departure.lateStores}],none⟩
@[go_sem] def SO2OPSq5:Oper:=⟨some 24,.load 25 (.tmp 23),25,"ref.go:121",#[⟨4,.data⟩,{on:=10,ground:=.gcOnly Departure.lateStores}],none⟩
@[go_sem] def SO2OPSq6:Oper:=⟨some 25,.fieldAddr 72 (.tmp 9) 1,0,"ref.go:121",#[],none⟩
@[go_sem] def SO2OPSq7:Oper:=⟨some 26,.load 25 (.tmp 25),25,"ref.go:121",#[⟨6,.data⟩],none⟩
@[go_sem] def SO2OPSq8:Oper:=⟨some 27,.slice 25 (.tmp 26) (some (.const (.int .i64 1))) none none,25,"ref.go:121",#[⟨7,.data⟩],none⟩
@[go_sem] def SO2OPSq9:Oper:=⟨some 28,.build 72 #[(0,.tmp 24),(1,.tmp 27)],72,"ref.go:121",#[⟨5,.data⟩,⟨8,.data⟩,{on:=10,ground:=.gcOnly Departure.lateStores}],none⟩
@[go_sem] def SO2OPSq10:Oper:=⟨none,.store 23 (.tmp 10) (.tmp 22),0,"ref.go:121",#[⟨3,.data⟩,⟨0,.phase⟩,⟨1,.phase⟩,⟨2,.phase⟩,⟨3,.phase⟩,{on:=4,ground:=.textOnly Departure.lateStores},{on:=5,ground:=.textOnly Departure.lateStores},{on:=6,ground:=.textOnly Departure.lateStores},{on:=7,ground:=.textOnly Departure.lateStores},{on:=8,ground:=.textOnly Departure.lateStoresUnsure},{on:=9,ground:=.textOnly Departure.lateStores}],none⟩
@[go_sem] def SO2OPSq11:Oper:=⟨none,.store 72 (.tmp 11) (.tmp 28),0,"ref.go:121",#[⟨9,.data⟩,⟨10,.chain⟩,⟨0,.phase⟩,⟨1,.phase⟩,⟨2,.phase⟩,⟨3,.phase⟩,⟨4,.phase⟩,⟨5,.phase⟩,⟨6,.phase⟩,⟨7,.phase⟩,⟨8,.phase⟩,⟨9,.phase⟩,⟨10,.phase⟩],none⟩
def z4w:Array Oper:=#[SO2OPSq0,SO2OPSq1,SO2OPSq2,SO2OPSq3,SO2OPSq4,SO2OPSq5,SO2OPSq6,SO2OPSq7,SO2OPSq8,SO2OPSq9,SO2OPSq10,SO2OPSq11]
set_option maxHeartbeats 2000000 in
theorem zfo {Q:Exit→Act→World→Prop} {u0 u1 u2 u3 u4 u5 u6 u7 u8 u12 u13 u14 u15 u16 u17 u18 u19 u20 u21 u22 u23 u24 u25 u26 u27 u28 u29 u30 u31 u32 u33 u34 u35 u36 u37 u38 u39 u40 u41 u42 u43 u44 u45 u46 u47 u48 u49 u50 u51 u52 u53 u54 u55 u56 u57 u58 u59 u60 u61 u62 u63 u64 u65 u66 u67 u68 u69 u70 u71 u72 u73 u74 u75 u76 u77:Value} (W:World) (b7 b8 b9 g o n c n1 c1 xn xc:Nat) (a1 xa:Option Addr) (Y:List Int) (lY:Y.length=32) (hn:(0:Int)<(n:Int)) (hsl:∀ w,(Instr.slice 25 (.slice (some ⟨g,o,none⟩) n c) (some (.int .i64 1)) none none).run Tryz.prog w=.ok (.slice a1 n1 c1) w) (P0 P1 P2:World→Prop) (h0:P0 W.drew) (t0:∀ w,P0 w→(fun w:World=>w.rangeAt g o (z00 Y)∧w.cell? ⟨b7,1,none⟩=some (.slice (some ⟨g,o,none⟩) n c)∧w.cell? ⟨b7,0,none⟩=some (.slice xa xn xc)) w) (t1:∀ w,P1 w→(fun w:World=>w.rangeAt g o (z00 Y)∧w.cell? ⟨b7,1,none⟩=some (.slice (some ⟨g,o,none⟩) n c)∧w.cell? ⟨b7,0,none⟩=some (.slice xa xn xc)) w) (t2:∀ w,P2 w→(fun w:World=>w.rangeAt g o (z00 Y)∧w.cell? ⟨b7,1,none⟩=some (.slice (some ⟨g,o,none⟩) n c)∧w.cell? ⟨b7,0,none⟩=some (.slice xa xn xc)) w) (st:∀ w,P0 w→Has w b8 (z00 ZND).toArray 23) (s1:∀ w,P0 w→P1 (w.setRow b8 (z00 Y).toArray)) (st2:∀ w,P1 w→Has w b9 #[.slice none 0 0,.slice none 0 0] 72) (s2:∀ w,P1 w→P2 (w.setRow b9 #[.slice xa xn xc,.slice a1 n1 c1])) (hQ:∀ c (a:Act) (t:Tmp) (v:Value) w,Q (.panic c) (a.put (some t) v) w→Q (.panic c) a w)
    (hfin:∀ (w:World),(P2 w)→Q .normal {tmps:=#[u0,u1,u2,u3,u4,u5,u6,u7,u8,.pointer (some ⟨b7,0,none⟩),.pointer (some ⟨b8,0,none⟩),.pointer (some ⟨b9,0,none⟩),u12,u13,u14,u15,u16,u17,u18,.pointer (some ⟨b7,1,none⟩),.slice (some ⟨g,o,none⟩) n c,.pointer (some ⟨g,o,none⟩),.agg (z00 Y).toArray,.pointer (some ⟨b7,0,none⟩),.slice xa xn xc,.pointer (some ⟨b7,1,none⟩),.slice (some ⟨g,o,none⟩) n c,.slice a1 n1 c1,.agg #[.slice xa xn xc,.slice a1 n1 c1],u29,u30,u31,u32,u33,u34,u35,u36,u37,u38,u39,u40,u41,u42,u43,u44,u45,u46,u47,u48,u49,u50,u51,u52,u53,u54,u55,u56,u57,u58,u59,u60,u61,u62,u63,u64,u65,u66,u67,u68,u69,u70,u71,u72,u73,u74,u75,u76,u77],defers:=[]} w):(Code.region 2 z4w true).wp Tryz.prog Q {tmps:=#[u0,u1,u2,u3,u4,u5,u6,u7,u8,.pointer (some ⟨b7,0,none⟩),.pointer (some ⟨b8,0,none⟩),.pointer (some ⟨b9,0,none⟩),u12,u13,u14,u15,u16,u17,u18,u19,u20,u21,u22,u23,u24,u25,u26,u27,u28,u29,u30,u31,u32,u33,u34,u35,u36,u37,u38,u39,u40,u41,u42,u43,u44,u45,u46,u47,u48,u49,u50,u51,u52,u53,u54,u55,u56,u57,u58,u59,u60,u61,u62,u63,u64,u65,u66,u67,u68,u69,u70,u71,u72,u73,u74,u75,u76,u77],defers:=[]} W:=by
  have kst10_11:∀ (w:World),(P2 w)→wpAnyH Tryz.prog .any z4w Q (fun w:World=>w.rangeAt g o (z00 Y)∧w.cell? ⟨b7,1,none⟩=some (.slice (some ⟨g,o,none⟩) n c)∧w.cell? ⟨b7,0,none⟩=some (.slice xa xn xc)) 0 #[true,true,true,true,true,true,true,true,true,true,true,true] {tmps:=#[u0,u1,u2,u3,u4,u5,u6,u7,u8,.pointer (some ⟨b7,0,none⟩),.pointer (some ⟨b8,0,none⟩),.pointer (some ⟨b9,0,none⟩),u12,u13,u14,u15,u16,u17,u18,.pointer (some ⟨b7,1,none⟩),.slice (some ⟨g,o,none⟩) n c,.pointer (some ⟨g,o,none⟩),.agg (z00 Y).toArray,.pointer (some ⟨b7,0,none⟩),.slice xa xn xc,.pointer (some ⟨b7,1,none⟩),.slice (some ⟨g,o,none⟩) n c,.slice a1 n1 c1,.agg #[.slice xa xn xc,.slice a1 n1 c1],u29,u30,u31,u32,u33,u34,u35,u36,u37,u38,u39,u40,u41,u42,u43,u44,u45,u46,u47,u48,u49,u50,u51,u52,u53,u54,u55,u56,u57,u58,u59,u60,u61,u62,u63,u64,u65,u66,u67,u68,u69,u70,u71,u72,u73,u74,u75,u76,u77],defers:=[]} w:=fun  w hp=>by
    exact wpAnyH_done (by kernel_rfl) (hfin  w hp) _
  have kst10:∀ (w:World),(P1 w)→wpAnyH Tryz.prog .any z4w Q (fun w:World=>w.rangeAt g o (z00 Y)∧w.cell? ⟨b7,1,none⟩=some (.slice (some ⟨g,o,none⟩) n c)∧w.cell? ⟨b7,0,none⟩=some (.slice xa xn xc)) 1 #[true,true,true,true,true,true,true,true,true,true,true,false] {tmps:=#[u0,u1,u2,u3,u4,u5,u6,u7,u8,.pointer (some ⟨b7,0,none⟩),.pointer (some ⟨b8,0,none⟩),.pointer (some ⟨b9,0,none⟩),u12,u13,u14,u15,u16,u17,u18,.pointer (some ⟨b7,1,none⟩),.slice (some ⟨g,o,none⟩) n c,.pointer (some ⟨g,o,none⟩),.agg (z00 Y).toArray,.pointer (some ⟨b7,0,none⟩),.slice xa xn xc,.pointer (some ⟨b7,1,none⟩),.slice (some ⟨g,o,none⟩) n c,.slice a1 n1 c1,.agg #[.slice xa xn xc,.slice a1 n1 c1],u29,u30,u31,u32,u33,u34,u35,u36,u37,u38,u39,u40,u41,u42,u43,u44,u45,u46,u47,u48,u49,u50,u51,u52,u53,u54,u55,u56,u57,u58,u59,u60,u61,u62,u63,u64,u65,u66,u67,u68,u69,u70,u71,u72,u73,u74,u75,u76,u77],defers:=[]} w:=fun  w hp=>by
    refine wpAnyH_ready (rs:=[11]) (by kernel_rfl) (by simp) ?_
    refine AllReadyH.cons (o:=SO2OPSq11) rfl (fun KQ hKQ=>?_) ?_
    · exact z0J (by rfl) (z0W (z2F (st2 _ hp) rfl)) (have hp:(fun (w:World)=>(P2 w))  _:=s2 w hp;hKQ.out _ _ (t2 _ hp) (fun _=>kst10_11  _ hp))
    exact AllReadyH.nil
  have kst:∀ (w:World),(P0 w)→wpAnyH Tryz.prog .any z4w Q (fun w:World=>w.rangeAt g o (z00 Y)∧w.cell? ⟨b7,1,none⟩=some (.slice (some ⟨g,o,none⟩) n c)∧w.cell? ⟨b7,0,none⟩=some (.slice xa xn xc)) 2 #[true,true,true,true,true,true,true,true,true,true,false,false] {tmps:=#[u0,u1,u2,u3,u4,u5,u6,u7,u8,.pointer (some ⟨b7,0,none⟩),.pointer (some ⟨b8,0,none⟩),.pointer (some ⟨b9,0,none⟩),u12,u13,u14,u15,u16,u17,u18,.pointer (some ⟨b7,1,none⟩),.slice (some ⟨g,o,none⟩) n c,.pointer (some ⟨g,o,none⟩),.agg (z00 Y).toArray,.pointer (some ⟨b7,0,none⟩),.slice xa xn xc,.pointer (some ⟨b7,1,none⟩),.slice (some ⟨g,o,none⟩) n c,.slice a1 n1 c1,.agg #[.slice xa xn xc,.slice a1 n1 c1],u29,u30,u31,u32,u33,u34,u35,u36,u37,u38,u39,u40,u41,u42,u43,u44,u45,u46,u47,u48,u49,u50,u51,u52,u53,u54,u55,u56,u57,u58,u59,u60,u61,u62,u63,u64,u65,u66,u67,u68,u69,u70,u71,u72,u73,u74,u75,u76,u77],defers:=[]} w:=fun  w hp=>by
    refine wpAnyH_ready (rs:=[10]) (by kernel_rfl) (by simp) ?_
    refine AllReadyH.cons (o:=SO2OPSq10) rfl (fun KQ hKQ=>?_) ?_
    · exact z0J (by rfl) (z0W (z1D (st _ hp) rfl lY)) (have hp:(fun (w:World)=>(P1 w))  _:=s1 w hp;hKQ.out _ _ (t1 _ hp) (fun _=>kst10  _ hp))
    exact AllReadyH.nil
  have hp:=h0
  have hww:(fun w:World=>w.rangeAt g o (z00 Y)∧w.cell? ⟨b7,1,none⟩=some (.slice (some ⟨g,o,none⟩) n c)∧w.cell? ⟨b7,0,none⟩=some (.slice xa xn xc)) W.drew:=t0 _ hp
  have last:=kst W.drew hp
  have z:wpAnyH Tryz.prog .any z4w Q (fun w:World=>w.rangeAt g o (z00 Y)∧w.cell? ⟨b7,1,none⟩=some (.slice (some ⟨g,o,none⟩) n c)∧w.cell? ⟨b7,0,none⟩=some (.slice xa xn xc)) 12 #[false,false,false,false,false,false,false,false,false,false,false,false] {tmps:=#[u0,u1,u2,u3,u4,u5,u6,u7,u8,.pointer (some ⟨b7,0,none⟩),.pointer (some ⟨b8,0,none⟩),.pointer (some ⟨b9,0,none⟩),u12,u13,u14,u15,u16,u17,u18,u19,u20,u21,u22,u23,u24,u25,u26,u27,u28,u29,u30,u31,u32,u33,u34,u35,u36,u37,u38,u39,u40,u41,u42,u43,u44,u45,u46,u47,u48,u49,u50,u51,u52,u53,u54,u55,u56,u57,u58,u59,u60,u61,u62,u63,u64,u65,u66,u67,u68,u69,u70,u71,u72,u73,u74,u75,u76,u77],defers:=[]} W.drew:=by
    refine tkP SO2OPSq0 (.pointer (some ⟨b7,1,none⟩)) 0 hQ hww ?_
    simp only [List.set]
    refine tkH SO2OPSq1 (.slice (some ⟨g,o,none⟩) n c) 1 hQ (Or.inl ⟨by rfl,fun w hw=>by have hx:=hw.2.1;go_simp⟩) hww ?_
    simp only [List.set]
    refine tkH SO2OPSq2 (.pointer (some ⟨g,o,none⟩)) 2 hQ (Or.inl ⟨by rfl,fun w hw=>by have hx:=hn;go_simp;intro e;omega⟩) hww ?_
    simp only [List.set]
    refine tkH SO2OPSq3 (.agg (z00 Y).toArray) 3 hQ (yieldsIf_load_mid (by rfl) 23 (.tmp 21) rfl g o rfl (z00 Y) _ (fun w h=>h.1) Tryz.underlying23 rfl (z0j lY)) hww ?_
    simp only [List.set]
    refine tkP SO2OPSq4 (.pointer (some ⟨b7,0,none⟩)) 4 hQ hww ?_
    simp only [List.set]
    refine tkH SO2OPSq5 (.slice xa xn xc) 5 hQ (Or.inl ⟨by rfl,fun w hw=>by have hx:=hw.2.2;go_simp⟩) hww ?_
    simp only [List.set]
    refine tkP SO2OPSq6 (.pointer (some ⟨b7,1,none⟩)) 6 hQ hww ?_
    simp only [List.set]
    refine tkH SO2OPSq7 (.slice (some ⟨g,o,none⟩) n c) 7 hQ (Or.inl ⟨by rfl,fun w hw=>by have hx:=hw.2.1;go_simp⟩) hww ?_
    simp only [List.set]
    refine tkH SO2OPSq8 (.slice a1 n1 c1) 8 hQ (Or.inl ⟨by rfl,fun w hw=>by have hx:=hsl w;go_simp⟩) hww ?_
    simp only [List.set]
    refine tkP SO2OPSq9 (.agg #[.slice xa xn xc,.slice a1 n1 c1]) 9 hQ hww ?_
    simp only [List.set]
    exact last
  exact wp_region_held_drew (S:=(fun w:World=>w.rangeAt g o (z00 Y)∧w.cell? ⟨b7,1,none⟩=some (.slice (some ⟨g,o,none⟩) n c)∧w.cell? ⟨b7,0,none⟩=some (.slice xa xn xc))) (by kernel_rfl) hww (fun _=>z)
@[go_sem] def SO4OPSq0:Oper:=⟨some 32,.fieldAddr 72 (.tmp 9) 0,0,"ref.go:124",#[],none⟩
@[go_sem] def SO4OPSq1:Oper:=⟨some 33,.load 25 (.tmp 32),25,"ref.go:124",#[⟨0,.data⟩],none⟩
@[go_sem] def SO4OPSq2:Oper:=⟨some 34,.indexAddr 25 (.tmp 33) (.const (.int .i64 0)),0,"ref.go:124",#[⟨1,.data⟩],none⟩
@[go_sem] def SO4OPSq3:Oper:=⟨some 35,.load 23 (.tmp 34),23,"ref.go:124",#[⟨2,.data⟩],none⟩
@[go_sem] def SO4OPSq4:Oper:=⟨some 36,.fieldAddr 72 (.tmp 9) 0,0,"ref.go:124",#[],none⟩
@[go_sem] def SO4OPSq5:Oper:=⟨some 37,.load 25 (.tmp 36),25,"ref.go:124",#[⟨4,.data⟩],none⟩
@[go_sem] def SO4OPSq6:Oper:=⟨some 38,.slice 25 (.tmp 37) (some (.const (.int .i64 1))) none none,25,"ref.go:124",#[⟨5,.data⟩],none⟩
@[go_sem] def SO4OPSq7:Oper:=⟨some 39,.fieldAddr 72 (.tmp 9) 1,0,"ref.go:124",#[{on:=10,ground:=.gcOnly Departure.lateStores}],none⟩
@[go_sem] def SO4OPSq8:Oper:=⟨some 40,.load 25 (.tmp 39),25,"ref.go:124",#[⟨7,.data⟩,{on:=10,ground:=.gcOnly Departure.lateStores}],none⟩
@[go_sem] def SO4OPSq9:Oper:=⟨some 41,.build 72 #[(0,.tmp 38),(1,.tmp 40)],72,"ref.go:124",#[⟨6,.data⟩,⟨8,.data⟩,{on:=10,ground:=.gcOnly Departure.lateStores}],none⟩
@[go_sem] def SO4OPSq10:Oper:=⟨none,.store 23 (.tmp 10) (.tmp 35),0,"ref.go:124",#[⟨3,.data⟩,⟨0,.phase⟩,⟨1,.phase⟩,⟨2,.phase⟩,⟨3,.phase⟩,{on:=4,ground:=.textOnly Departure.lateStores},{on:=5,ground:=.textOnly Departure.lateStores},{on:=6,ground:=.textOnly Departure.lateStoresUnsure},{on:=7,ground:=.textOnly Departure.lateStores},{on:=8,ground:=.textOnly Departure.lateStores},{on:=9,ground:=.textOnly Departure.lateStores}],none⟩
@[go_sem] def SO4OPSq11:Oper:=⟨none,.store 72 (.tmp 11) (.tmp 41),0,"ref.go:124",#[⟨9,.data⟩,⟨10,.chain⟩,⟨0,.phase⟩,⟨1,.phase⟩,⟨2,.phase⟩,⟨3,.phase⟩,⟨4,.phase⟩,⟨5,.phase⟩,⟨6,.phase⟩,⟨7,.phase⟩,⟨8,.phase⟩,⟨9,.phase⟩,⟨10,.phase⟩],none⟩
def z4x:Array Oper:=#[SO4OPSq0,SO4OPSq1,SO4OPSq2,SO4OPSq3,SO4OPSq4,SO4OPSq5,SO4OPSq6,SO4OPSq7,SO4OPSq8,SO4OPSq9,SO4OPSq10,SO4OPSq11]
set_option maxHeartbeats 2000000 in
theorem zfp {Q:Exit→Act→World→Prop} {u0 u1 u2 u3 u4 u5 u6 u7 u8 u12 u13 u14 u15 u16 u17 u18 u19 u20 u21 u22 u23 u24 u25 u26 u27 u28 u29 u30 u31 u32 u33 u34 u35 u36 u37 u38 u39 u40 u41 u42 u43 u44 u45 u46 u47 u48 u49 u50 u51 u52 u53 u54 u55 u56 u57 u58 u59 u60 u61 u62 u63 u64 u65 u66 u67 u68 u69 u70 u71 u72 u73 u74 u75 u76 u77:Value} (W:World) (b7 b8 b9 g o n c n1 c1 xn xc:Nat) (a1 xa:Option Addr) (Y:List Int) (lY:Y.length=32) (hn:(0:Int)<(n:Int)) (hsl:∀ w,(Instr.slice 25 (.slice (some ⟨g,o,none⟩) n c) (some (.int .i64 1)) none none).run Tryz.prog w=.ok (.slice a1 n1 c1) w) (P0 P1 P2:World→Prop) (h0:P0 W.drew) (t0:∀ w,P0 w→(fun w:World=>w.rangeAt g o (z00 Y)∧w.cell? ⟨b7,0,none⟩=some (.slice (some ⟨g,o,none⟩) n c)∧w.cell? ⟨b7,1,none⟩=some (.slice xa xn xc)) w) (t1:∀ w,P1 w→(fun w:World=>w.rangeAt g o (z00 Y)∧w.cell? ⟨b7,0,none⟩=some (.slice (some ⟨g,o,none⟩) n c)∧w.cell? ⟨b7,1,none⟩=some (.slice xa xn xc)) w) (t2:∀ w,P2 w→(fun w:World=>w.rangeAt g o (z00 Y)∧w.cell? ⟨b7,0,none⟩=some (.slice (some ⟨g,o,none⟩) n c)∧w.cell? ⟨b7,1,none⟩=some (.slice xa xn xc)) w) (st:∀ w,P0 w→Has w b8 (z00 ZND).toArray 23) (s1:∀ w,P0 w→P1 (w.setRow b8 (z00 Y).toArray)) (st2:∀ w,P1 w→Has w b9 #[.slice none 0 0,.slice none 0 0] 72) (s2:∀ w,P1 w→P2 (w.setRow b9 #[.slice a1 n1 c1,.slice xa xn xc])) (hQ:∀ c (a:Act) (t:Tmp) (v:Value) w,Q (.panic c) (a.put (some t) v) w→Q (.panic c) a w)
    (hfin:∀ (w:World),(P2 w)→Q .normal {tmps:=#[u0,u1,u2,u3,u4,u5,u6,u7,u8,.pointer (some ⟨b7,0,none⟩),.pointer (some ⟨b8,0,none⟩),.pointer (some ⟨b9,0,none⟩),u12,u13,u14,u15,u16,u17,u18,u19,u20,u21,u22,u23,u24,u25,u26,u27,u28,u29,u30,u31,.pointer (some ⟨b7,0,none⟩),.slice (some ⟨g,o,none⟩) n c,.pointer (some ⟨g,o,none⟩),.agg (z00 Y).toArray,.pointer (some ⟨b7,0,none⟩),.slice (some ⟨g,o,none⟩) n c,.slice a1 n1 c1,.pointer (some ⟨b7,1,none⟩),.slice xa xn xc,.agg #[.slice a1 n1 c1,.slice xa xn xc],u42,u43,u44,u45,u46,u47,u48,u49,u50,u51,u52,u53,u54,u55,u56,u57,u58,u59,u60,u61,u62,u63,u64,u65,u66,u67,u68,u69,u70,u71,u72,u73,u74,u75,u76,u77],defers:=[]} w):(Code.region 4 z4x true).wp Tryz.prog Q {tmps:=#[u0,u1,u2,u3,u4,u5,u6,u7,u8,.pointer (some ⟨b7,0,none⟩),.pointer (some ⟨b8,0,none⟩),.pointer (some ⟨b9,0,none⟩),u12,u13,u14,u15,u16,u17,u18,u19,u20,u21,u22,u23,u24,u25,u26,u27,u28,u29,u30,u31,u32,u33,u34,u35,u36,u37,u38,u39,u40,u41,u42,u43,u44,u45,u46,u47,u48,u49,u50,u51,u52,u53,u54,u55,u56,u57,u58,u59,u60,u61,u62,u63,u64,u65,u66,u67,u68,u69,u70,u71,u72,u73,u74,u75,u76,u77],defers:=[]} W:=by
  have kst10_11:∀ (w:World),(P2 w)→wpAnyH Tryz.prog .any z4x Q (fun w:World=>w.rangeAt g o (z00 Y)∧w.cell? ⟨b7,0,none⟩=some (.slice (some ⟨g,o,none⟩) n c)∧w.cell? ⟨b7,1,none⟩=some (.slice xa xn xc)) 0 #[true,true,true,true,true,true,true,true,true,true,true,true] {tmps:=#[u0,u1,u2,u3,u4,u5,u6,u7,u8,.pointer (some ⟨b7,0,none⟩),.pointer (some ⟨b8,0,none⟩),.pointer (some ⟨b9,0,none⟩),u12,u13,u14,u15,u16,u17,u18,u19,u20,u21,u22,u23,u24,u25,u26,u27,u28,u29,u30,u31,.pointer (some ⟨b7,0,none⟩),.slice (some ⟨g,o,none⟩) n c,.pointer (some ⟨g,o,none⟩),.agg (z00 Y).toArray,.pointer (some ⟨b7,0,none⟩),.slice (some ⟨g,o,none⟩) n c,.slice a1 n1 c1,.pointer (some ⟨b7,1,none⟩),.slice xa xn xc,.agg #[.slice a1 n1 c1,.slice xa xn xc],u42,u43,u44,u45,u46,u47,u48,u49,u50,u51,u52,u53,u54,u55,u56,u57,u58,u59,u60,u61,u62,u63,u64,u65,u66,u67,u68,u69,u70,u71,u72,u73,u74,u75,u76,u77],defers:=[]} w:=fun  w hp=>by
    exact wpAnyH_done (by kernel_rfl) (hfin  w hp) _
  have kst10:∀ (w:World),(P1 w)→wpAnyH Tryz.prog .any z4x Q (fun w:World=>w.rangeAt g o (z00 Y)∧w.cell? ⟨b7,0,none⟩=some (.slice (some ⟨g,o,none⟩) n c)∧w.cell? ⟨b7,1,none⟩=some (.slice xa xn xc)) 1 #[true,true,true,true,true,true,true,true,true,true,true,false] {tmps:=#[u0,u1,u2,u3,u4,u5,u6,u7,u8,.pointer (some ⟨b7,0,none⟩),.pointer (some ⟨b8,0,none⟩),.pointer (some ⟨b9,0,none⟩),u12,u13,u14,u15,u16,u17,u18,u19,u20,u21,u22,u23,u24,u25,u26,u27,u28,u29,u30,u31,.pointer (some ⟨b7,0,none⟩),.slice (some ⟨g,o,none⟩) n c,.pointer (some ⟨g,o,none⟩),.agg (z00 Y).toArray,.pointer (some ⟨b7,0,none⟩),.slice (some ⟨g,o,none⟩) n c,.slice a1 n1 c1,.pointer (some ⟨b7,1,none⟩),.slice xa xn xc,.agg #[.slice a1 n1 c1,.slice xa xn xc],u42,u43,u44,u45,u46,u47,u48,u49,u50,u51,u52,u53,u54,u55,u56,u57,u58,u59,u60,u61,u62,u63,u64,u65,u66,u67,u68,u69,u70,u71,u72,u73,u74,u75,u76,u77],defers:=[]} w:=fun  w hp=>by
    refine wpAnyH_ready (rs:=[11]) (by kernel_rfl) (by simp) ?_
    refine AllReadyH.cons (o:=SO4OPSq11) rfl (fun KQ hKQ=>?_) ?_
    · exact z0J (by rfl) (z0W (z2F (st2 _ hp) rfl)) (have hp:(fun (w:World)=>(P2 w))  _:=s2 w hp;hKQ.out _ _ (t2 _ hp) (fun _=>kst10_11  _ hp))
    exact AllReadyH.nil
  have kst:∀ (w:World),(P0 w)→wpAnyH Tryz.prog .any z4x Q (fun w:World=>w.rangeAt g o (z00 Y)∧w.cell? ⟨b7,0,none⟩=some (.slice (some ⟨g,o,none⟩) n c)∧w.cell? ⟨b7,1,none⟩=some (.slice xa xn xc)) 2 #[true,true,true,true,true,true,true,true,true,true,false,false] {tmps:=#[u0,u1,u2,u3,u4,u5,u6,u7,u8,.pointer (some ⟨b7,0,none⟩),.pointer (some ⟨b8,0,none⟩),.pointer (some ⟨b9,0,none⟩),u12,u13,u14,u15,u16,u17,u18,u19,u20,u21,u22,u23,u24,u25,u26,u27,u28,u29,u30,u31,.pointer (some ⟨b7,0,none⟩),.slice (some ⟨g,o,none⟩) n c,.pointer (some ⟨g,o,none⟩),.agg (z00 Y).toArray,.pointer (some ⟨b7,0,none⟩),.slice (some ⟨g,o,none⟩) n c,.slice a1 n1 c1,.pointer (some ⟨b7,1,none⟩),.slice xa xn xc,.agg #[.slice a1 n1 c1,.slice xa xn xc],u42,u43,u44,u45,u46,u47,u48,u49,u50,u51,u52,u53,u54,u55,u56,u57,u58,u59,u60,u61,u62,u63,u64,u65,u66,u67,u68,u69,u70,u71,u72,u73,u74,u75,u76,u77],defers:=[]} w:=fun  w hp=>by
    refine wpAnyH_ready (rs:=[10]) (by kernel_rfl) (by simp) ?_
    refine AllReadyH.cons (o:=SO4OPSq10) rfl (fun KQ hKQ=>?_) ?_
    · exact z0J (by rfl) (z0W (z1D (st _ hp) rfl lY)) (have hp:(fun (w:World)=>(P1 w))  _:=s1 w hp;hKQ.out _ _ (t1 _ hp) (fun _=>kst10  _ hp))
    exact AllReadyH.nil
  have hp:=h0
  have hww:(fun w:World=>w.rangeAt g o (z00 Y)∧w.cell? ⟨b7,0,none⟩=some (.slice (some ⟨g,o,none⟩) n c)∧w.cell? ⟨b7,1,none⟩=some (.slice xa xn xc)) W.drew:=t0 _ hp
  have last:=kst W.drew hp
  have z:wpAnyH Tryz.prog .any z4x Q (fun w:World=>w.rangeAt g o (z00 Y)∧w.cell? ⟨b7,0,none⟩=some (.slice (some ⟨g,o,none⟩) n c)∧w.cell? ⟨b7,1,none⟩=some (.slice xa xn xc)) 12 #[false,false,false,false,false,false,false,false,false,false,false,false] {tmps:=#[u0,u1,u2,u3,u4,u5,u6,u7,u8,.pointer (some ⟨b7,0,none⟩),.pointer (some ⟨b8,0,none⟩),.pointer (some ⟨b9,0,none⟩),u12,u13,u14,u15,u16,u17,u18,u19,u20,u21,u22,u23,u24,u25,u26,u27,u28,u29,u30,u31,u32,u33,u34,u35,u36,u37,u38,u39,u40,u41,u42,u43,u44,u45,u46,u47,u48,u49,u50,u51,u52,u53,u54,u55,u56,u57,u58,u59,u60,u61,u62,u63,u64,u65,u66,u67,u68,u69,u70,u71,u72,u73,u74,u75,u76,u77],defers:=[]} W.drew:=by
    refine tkP SO4OPSq0 (.pointer (some ⟨b7,0,none⟩)) 0 hQ hww ?_
    simp only [List.set]
    refine tkH SO4OPSq1 (.slice (some ⟨g,o,none⟩) n c) 1 hQ (Or.inl ⟨by rfl,fun w hw=>by have hx:=hw.2.1;go_simp⟩) hww ?_
    simp only [List.set]
    refine tkH SO4OPSq2 (.pointer (some ⟨g,o,none⟩)) 2 hQ (Or.inl ⟨by rfl,fun w hw=>by have hx:=hn;go_simp;intro e;omega⟩) hww ?_
    simp only [List.set]
    refine tkH SO4OPSq3 (.agg (z00 Y).toArray) 3 hQ (yieldsIf_load_mid (by rfl) 23 (.tmp 34) rfl g o rfl (z00 Y) _ (fun w h=>h.1) Tryz.underlying23 rfl (z0j lY)) hww ?_
    simp only [List.set]
    refine tkP SO4OPSq4 (.pointer (some ⟨b7,0,none⟩)) 4 hQ hww ?_
    simp only [List.set]
    refine tkH SO4OPSq5 (.slice (some ⟨g,o,none⟩) n c) 5 hQ (Or.inl ⟨by rfl,fun w hw=>by have hx:=hw.2.1;go_simp⟩) hww ?_
    simp only [List.set]
    refine tkH SO4OPSq6 (.slice a1 n1 c1) 6 hQ (Or.inl ⟨by rfl,fun w hw=>by have hx:=hsl w;go_simp⟩) hww ?_
    simp only [List.set]
    refine tkP SO4OPSq7 (.pointer (some ⟨b7,1,none⟩)) 7 hQ hww ?_
    simp only [List.set]
    refine tkH SO4OPSq8 (.slice xa xn xc) 8 hQ (Or.inl ⟨by rfl,fun w hw=>by have hx:=hw.2.2;go_simp⟩) hww ?_
    simp only [List.set]
    refine tkP SO4OPSq9 (.agg #[.slice a1 n1 c1,.slice xa xn xc]) 9 hQ hww ?_
    simp only [List.set]
    exact last
  exact wp_region_held_drew (S:=(fun w:World=>w.rangeAt g o (z00 Y)∧w.cell? ⟨b7,0,none⟩=some (.slice (some ⟨g,o,none⟩) n c)∧w.cell? ⟨b7,1,none⟩=some (.slice xa xn xc))) (by kernel_rfl) hww (fun _=>z)
@[go_sem] def SO7OPSq0:Oper:=⟨some 73,.move (.tmp 0),3,"ref.go:128",#[],none⟩
@[go_sem] def SO7OPSq1:Oper:=⟨some 74,.load 23 (.tmp 12),23,"ref.go:128",#[],none⟩
@[go_sem] def SO7OPSq2:Oper:=⟨some 75,.load 23 (.tmp 13),23,"ref.go:128",#[],none⟩
@[go_sem] def SO7OPSq3:Oper:=⟨some 76,.call {callee:=.value (.func 78),args:=#[.tmp 73,.tmp 74,.tmp 75],argTypes:=#[3,23,23]},23,"ref.go:128",#[⟨0,.data⟩,⟨1,.data⟩,⟨2,.data⟩],none⟩
@[go_sem] def SO7OPSq4:Oper:=⟨some 77,.load 72 (.tmp 9),72,"ref.go:128",#[{on:=5,ground:=.gcOnly Departure.lateStores}],none⟩
@[go_sem] def SO7OPSq5:Oper:=⟨none,.store 23 (.tmp 10) (.tmp 76),0,"ref.go:128",#[⟨3,.data⟩,⟨3,.chain⟩,⟨0,.phase⟩,⟨1,.phase⟩,⟨2,.phase⟩,⟨3,.phase⟩,{on:=4,ground:=.textOnly Departure.lateStores}],none⟩
@[go_sem] def SO7OPSq6:Oper:=⟨none,.store 72 (.tmp 11) (.tmp 77),0,"ref.go:128",#[⟨4,.data⟩,⟨5,.chain⟩,⟨0,.phase⟩,⟨1,.phase⟩,⟨2,.phase⟩,⟨3,.phase⟩,⟨4,.phase⟩,⟨5,.phase⟩],none⟩
def z4y:Array Oper:=#[SO7OPSq0,SO7OPSq1,SO7OPSq2,SO7OPSq3,SO7OPSq4,SO7OPSq5,SO7OPSq6]
set_option maxHeartbeats 2000000 in
theorem zfq {Q:Exit→Act→World→Prop} {u1 u2 u3 u4 u5 u6 u7 u8 u14 u15 u16 u17 u18 u19 u20 u21 u22 u23 u24 u25 u26 u27 u28 u29 u30 u31 u32 u33 u34 u35 u36 u37 u38 u39 u40 u41 u42 u43 u44 u45 u46 u47 u48 u49 u50 u51 u52 u53 u54 u55 u56 u57 u58 u59 u60 u61 u62 u63 u64 u65 u66 u67 u68 u69 u70 u71 u72 u73 u74 u75 u76 u77:Value} (W:World) (d:Int) (b7 b8 b9 bl br yn yc xn xc:Nat) (ya xa:Option Addr) (A B Y:List Int) (lA:A.length=32) (lB:B.length=32) (lY:Y.length=32) (P0 PC P1 P2:World→Prop) (h0:P0 W.drew) (t0:∀ w,P0 w→(fun w:World=>w.rangeAt bl 0 (z00 A)∧w.rangeAt br 0 (z00 B)∧w.cell? ⟨b7,0,none⟩=some (.slice ya yn yc)∧w.cell? ⟨b7,1,none⟩=some (.slice xa xn xc)) w) (tc:∀ w,PC w→(fun w:World=>w.rangeAt bl 0 (z00 A)∧w.rangeAt br 0 (z00 B)∧w.cell? ⟨b7,0,none⟩=some (.slice ya yn yc)∧w.cell? ⟨b7,1,none⟩=some (.slice xa xn xc)) w) (t1:∀ w,P1 w→(fun w:World=>w.rangeAt bl 0 (z00 A)∧w.rangeAt br 0 (z00 B)∧w.cell? ⟨b7,0,none⟩=some (.slice ya yn yc)∧w.cell? ⟨b7,1,none⟩=some (.slice xa xn xc)) w) (t2:∀ w,P2 w→(fun w:World=>w.rangeAt bl 0 (z00 A)∧w.rangeAt br 0 (z00 B)∧w.cell? ⟨b7,0,none⟩=some (.slice ya yn yc)∧w.cell? ⟨b7,1,none⟩=some (.slice xa xn xc)) w) (c0:∀ w,P0 w→Calls Tryz.prog 78 #[.int .i64 d,.agg (z00 A).toArray,.agg (z00 B).toArray] w fun e w'=>e=.returned (.agg (z00 Y).toArray)∧PC w') (st:∀ w,PC w→Has w b8 (z00 ZND).toArray 23) (s1:∀ w,PC w→P1 (w.setRow b8 (z00 Y).toArray)) (st2:∀ w,P1 w→Has w b9 #[.slice none 0 0,.slice none 0 0] 72) (s2:∀ w,P1 w→P2 (w.setRow b9 #[.slice ya yn yc,.slice xa xn xc])) (hQ:∀ c (a:Act) (t:Tmp) (v:Value) w,Q (.panic c) (a.put (some t) v) w→Q (.panic c) a w)
    (hfin:∀ (w:World),(P2 w)→Q .normal {tmps:=#[.int .i64 d,u1,u2,u3,u4,u5,u6,u7,u8,.pointer (some ⟨b7,0,none⟩),.pointer (some ⟨b8,0,none⟩),.pointer (some ⟨b9,0,none⟩),.pointer (some ⟨bl,0,none⟩),.pointer (some ⟨br,0,none⟩),u14,u15,u16,u17,u18,u19,u20,u21,u22,u23,u24,u25,u26,u27,u28,u29,u30,u31,u32,u33,u34,u35,u36,u37,u38,u39,u40,u41,u42,u43,u44,u45,u46,u47,u48,u49,u50,u51,u52,u53,u54,u55,u56,u57,u58,u59,u60,u61,u62,u63,u64,u65,u66,u67,u68,u69,u70,u71,u72,.int .i64 d,.agg (z00 A).toArray,.agg (z00 B).toArray,.agg (z00 Y).toArray,.agg #[.slice ya yn yc,.slice xa xn xc]],defers:=[]} w):(Code.region 7 z4y true).wp Tryz.prog Q {tmps:=#[.int .i64 d,u1,u2,u3,u4,u5,u6,u7,u8,.pointer (some ⟨b7,0,none⟩),.pointer (some ⟨b8,0,none⟩),.pointer (some ⟨b9,0,none⟩),.pointer (some ⟨bl,0,none⟩),.pointer (some ⟨br,0,none⟩),u14,u15,u16,u17,u18,u19,u20,u21,u22,u23,u24,u25,u26,u27,u28,u29,u30,u31,u32,u33,u34,u35,u36,u37,u38,u39,u40,u41,u42,u43,u44,u45,u46,u47,u48,u49,u50,u51,u52,u53,u54,u55,u56,u57,u58,u59,u60,u61,u62,u63,u64,u65,u66,u67,u68,u69,u70,u71,u72,u73,u74,u75,u76,u77],defers:=[]} W:=by
  have kst3_5_6:∀ (w:World),(P2 w)→wpAnyH Tryz.prog .any z4y Q (fun w:World=>w.rangeAt bl 0 (z00 A)∧w.rangeAt br 0 (z00 B)∧w.cell? ⟨b7,0,none⟩=some (.slice ya yn yc)∧w.cell? ⟨b7,1,none⟩=some (.slice xa xn xc)) 0 #[true,true,true,true,true,true,true] {tmps:=#[.int .i64 d,u1,u2,u3,u4,u5,u6,u7,u8,.pointer (some ⟨b7,0,none⟩),.pointer (some ⟨b8,0,none⟩),.pointer (some ⟨b9,0,none⟩),.pointer (some ⟨bl,0,none⟩),.pointer (some ⟨br,0,none⟩),u14,u15,u16,u17,u18,u19,u20,u21,u22,u23,u24,u25,u26,u27,u28,u29,u30,u31,u32,u33,u34,u35,u36,u37,u38,u39,u40,u41,u42,u43,u44,u45,u46,u47,u48,u49,u50,u51,u52,u53,u54,u55,u56,u57,u58,u59,u60,u61,u62,u63,u64,u65,u66,u67,u68,u69,u70,u71,u72,.int .i64 d,.agg (z00 A).toArray,.agg (z00 B).toArray,.agg (z00 Y).toArray,.agg #[.slice ya yn yc,.slice xa xn xc]],defers:=[]} w:=fun  w hp=>by
    exact wpAnyH_done (by kernel_rfl) (hfin  w hp) _
  have kst3_5:∀ (w:World),(P1 w)→wpAnyH Tryz.prog .any z4y Q (fun w:World=>w.rangeAt bl 0 (z00 A)∧w.rangeAt br 0 (z00 B)∧w.cell? ⟨b7,0,none⟩=some (.slice ya yn yc)∧w.cell? ⟨b7,1,none⟩=some (.slice xa xn xc)) 1 #[true,true,true,true,true,true,false] {tmps:=#[.int .i64 d,u1,u2,u3,u4,u5,u6,u7,u8,.pointer (some ⟨b7,0,none⟩),.pointer (some ⟨b8,0,none⟩),.pointer (some ⟨b9,0,none⟩),.pointer (some ⟨bl,0,none⟩),.pointer (some ⟨br,0,none⟩),u14,u15,u16,u17,u18,u19,u20,u21,u22,u23,u24,u25,u26,u27,u28,u29,u30,u31,u32,u33,u34,u35,u36,u37,u38,u39,u40,u41,u42,u43,u44,u45,u46,u47,u48,u49,u50,u51,u52,u53,u54,u55,u56,u57,u58,u59,u60,u61,u62,u63,u64,u65,u66,u67,u68,u69,u70,u71,u72,.int .i64 d,.agg (z00 A).toArray,.agg (z00 B).toArray,.agg (z00 Y).toArray,.agg #[.slice ya yn yc,.slice xa xn xc]],defers:=[]} w:=fun  w hp=>by
    refine wpAnyH_ready (rs:=[6]) (by kernel_rfl) (by simp) ?_
    refine AllReadyH.cons (o:=SO7OPSq6) rfl (fun KQ hKQ=>?_) ?_
    · exact z0J (by rfl) (z0W (z2F (st2 _ hp) rfl)) (have hp:(fun (w:World)=>(P2 w))  _:=s2 w hp;hKQ.out _ _ (t2 _ hp) (fun _=>kst3_5_6  _ hp))
    exact AllReadyH.nil
  have kst:∀ (w:World),(P0 w)→wpAnyH Tryz.prog .any z4y Q (fun w:World=>w.rangeAt bl 0 (z00 A)∧w.rangeAt br 0 (z00 B)∧w.cell? ⟨b7,0,none⟩=some (.slice ya yn yc)∧w.cell? ⟨b7,1,none⟩=some (.slice xa xn xc)) 3 #[true,true,true,false,true,false,false] {tmps:=#[.int .i64 d,u1,u2,u3,u4,u5,u6,u7,u8,.pointer (some ⟨b7,0,none⟩),.pointer (some ⟨b8,0,none⟩),.pointer (some ⟨b9,0,none⟩),.pointer (some ⟨bl,0,none⟩),.pointer (some ⟨br,0,none⟩),u14,u15,u16,u17,u18,u19,u20,u21,u22,u23,u24,u25,u26,u27,u28,u29,u30,u31,u32,u33,u34,u35,u36,u37,u38,u39,u40,u41,u42,u43,u44,u45,u46,u47,u48,u49,u50,u51,u52,u53,u54,u55,u56,u57,u58,u59,u60,u61,u62,u63,u64,u65,u66,u67,u68,u69,u70,u71,u72,.int .i64 d,.agg (z00 A).toArray,.agg (z00 B).toArray,u76,.agg #[.slice ya yn yc,.slice xa xn xc]],defers:=[]} w:=fun  w hp=>by
    refine wpAnyH_ready (rs:=[3]) (by kernel_rfl) (by simp) ?_
    refine AllReadyH.cons (o:=SO7OPSq3) rfl (fun KQ hKQ=>?_) ?_
    · rw [if_pos (by rfl)]
      go_simp
      refine (show Calls _ _ _ w (fun e w'=>e=.returned (.agg (z00 Y).toArray)∧(PC w')) from c0 w hp).mono ?_
      rintro e w ⟨rfl,hp⟩
      refine hKQ.out _ _ (tc _ hp) (fun _=>?_)
      simp only [List.setIfInBounds_toArray,List.set]
      refine wpAnyH_ready (rs:=[5]) (by kernel_rfl) (by simp) ?_
      refine AllReadyH.cons (o:=SO7OPSq5) rfl (fun KQ hKQ=>?_) ?_
      · exact z0J (by rfl) (z0W (z1D (st _ hp) rfl lY)) (have hp:(fun (w:World)=>(P1 w))  _:=s1 w hp;hKQ.out _ _ (t1 _ hp) (fun _=>kst3_5  _ hp))
      exact AllReadyH.nil
    exact AllReadyH.nil
  have hp:=h0
  have hww:(fun w:World=>w.rangeAt bl 0 (z00 A)∧w.rangeAt br 0 (z00 B)∧w.cell? ⟨b7,0,none⟩=some (.slice ya yn yc)∧w.cell? ⟨b7,1,none⟩=some (.slice xa xn xc)) W.drew:=t0 _ hp
  have last:=kst W.drew hp
  have z:wpAnyH Tryz.prog .any z4y Q (fun w:World=>w.rangeAt bl 0 (z00 A)∧w.rangeAt br 0 (z00 B)∧w.cell? ⟨b7,0,none⟩=some (.slice ya yn yc)∧w.cell? ⟨b7,1,none⟩=some (.slice xa xn xc)) 7 #[false,false,false,false,false,false,false] {tmps:=#[.int .i64 d,u1,u2,u3,u4,u5,u6,u7,u8,.pointer (some ⟨b7,0,none⟩),.pointer (some ⟨b8,0,none⟩),.pointer (some ⟨b9,0,none⟩),.pointer (some ⟨bl,0,none⟩),.pointer (some ⟨br,0,none⟩),u14,u15,u16,u17,u18,u19,u20,u21,u22,u23,u24,u25,u26,u27,u28,u29,u30,u31,u32,u33,u34,u35,u36,u37,u38,u39,u40,u41,u42,u43,u44,u45,u46,u47,u48,u49,u50,u51,u52,u53,u54,u55,u56,u57,u58,u59,u60,u61,u62,u63,u64,u65,u66,u67,u68,u69,u70,u71,u72,u73,u74,u75,u76,u77],defers:=[]} W.drew:=by
    refine tkP SO7OPSq0 (.int .i64 d) 0 hQ hww ?_
    simp only [List.set]
    refine tkH SO7OPSq1 (.agg (z00 A).toArray) 1 hQ (yieldsIf_load_mid (by rfl) 23 (.tmp 12) rfl bl 0 rfl (z00 A) _ (fun w h=>h.1) Tryz.underlying23 rfl (z0j lA)) hww ?_
    simp only [List.set]
    refine tkH SO7OPSq2 (.agg (z00 B).toArray) 2 hQ (yieldsIf_load_mid (by rfl) 23 (.tmp 13) rfl br 0 rfl (z00 B) _ (fun w h=>h.2.1) Tryz.underlying23 rfl (z0j lB)) hww ?_
    simp only [List.set]
    refine tkH SO7OPSq4 (.agg #[.slice ya yn yc,.slice xa xn xc]) 4 hQ (Or.inl ⟨by rfl,fun w hw=>by have hx:=hw.2.2.1;have hy:=hw.2.2.2;go_simp⟩) hww ?_
    simp only [List.set]
    exact last
  exact wp_region_held_drew (S:=(fun w:World=>w.rangeAt bl 0 (z00 A)∧w.rangeAt br 0 (z00 B)∧w.cell? ⟨b7,0,none⟩=some (.slice ya yn yc)∧w.cell? ⟨b7,1,none⟩=some (.slice xa xn xc))) (by kernel_rfl) hww (fun _=>z)
@[go_sem] def SC13OPSq0:Oper:=⟨some 46,.move (.tmp 0),3,"ref.go:144",#[],none⟩
@[go_sem] def SC13OPSq1:Oper:=⟨some 47,.move (.tmp 12),73,"ref.go:144",#[],none⟩
@[go_sem] def SC13OPSq2:Oper:=⟨some 48,.move (.tmp 13),3,"ref.go:144",#[],none⟩
@[go_sem] def SC13OPSq3:Oper:=⟨some 49,.indexAddr 73 (.tmp 47) (.tmp 48),0,"ref.go:144",#[⟨1,.data⟩,⟨2,.data⟩],none⟩
@[go_sem] def SC13OPSq4:Oper:=⟨some 50,.load 78 (.tmp 49),78,"ref.go:144",#[⟨3,.data⟩],none⟩
@[go_sem] def SC13OPSq5:Oper:=⟨some 51,.fieldAddr 28 (.tmp 5) 1,0,"ref.go:144",#[],none⟩
@[go_sem] def SC13OPSq6:Oper:=⟨some 52,.load 24 (.tmp 51),24,"ref.go:144",#[⟨5,.data⟩],none⟩
@[go_sem] def SC13OPSq7:Oper:=⟨some 53,.fieldAddr 28 (.tmp 5) 2,0,"ref.go:144",#[],none⟩
@[go_sem] def SC13OPSq8:Oper:=⟨some 54,.load 24 (.tmp 53),24,"ref.go:144",#[⟨7,.data⟩],none⟩
@[go_sem] def SC13OPSq9:Oper:=⟨some 55,.load 72 (.tmp 11),72,"ref.go:144",#[],none⟩
@[go_sem] def SC13OPSq10:Oper:=⟨some 56,.call {callee:=.value (.func 40),args:=#[.tmp 46,.tmp 50,.tmp 52,.tmp 54,.tmp 55],argTypes:=#[3,78,24,24,72]},75,"ref.go:144",#[⟨0,.data⟩,⟨4,.data⟩,⟨6,.data⟩,⟨8,.data⟩,⟨9,.data⟩],none⟩
@[go_sem] def SC13OPSq11:Oper:=⟨some 45,.move (.tmp 56),75,"ref.go:144",#[⟨10,.data⟩],none⟩
@[go_sem] def SC13OPSq12:Oper:=⟨some 57,.extract (.tmp 45) 0,23,"ref.go:144",#[⟨11,.data⟩],none⟩
@[go_sem] def SC13OPSq13:Oper:=⟨some 58,.extract (.tmp 45) 1,72,"ref.go:144",#[⟨11,.data⟩,{on:=14,ground:=.gcOnly Departure.lateStores}],none⟩
@[go_sem] def SC13OPSq14:Oper:=⟨none,.store 23 (.tmp 14) (.tmp 57),0,"ref.go:144",#[⟨12,.data⟩,⟨10,.chain⟩,⟨0,.phase⟩,⟨1,.phase⟩,⟨2,.phase⟩,⟨3,.phase⟩,⟨4,.phase⟩,⟨5,.phase⟩,⟨6,.phase⟩,⟨7,.phase⟩,⟨8,.phase⟩,⟨9,.phase⟩,⟨10,.phase⟩,⟨11,.phase⟩,⟨12,.phase⟩,{on:=13,ground:=.textOnly Departure.lateStores}],none⟩
@[go_sem] def SC13OPSq15:Oper:=⟨none,.store 72 (.tmp 11) (.tmp 58),0,"ref.go:144",#[⟨13,.data⟩,⟨14,.chain⟩,⟨0,.phase⟩,⟨1,.phase⟩,⟨2,.phase⟩,⟨3,.phase⟩,⟨4,.phase⟩,⟨5,.phase⟩,⟨6,.phase⟩,⟨7,.phase⟩,⟨8,.phase⟩,⟨9,.phase⟩,⟨10,.phase⟩,⟨11,.phase⟩,⟨12,.phase⟩,⟨13,.phase⟩,⟨14,.phase⟩],none⟩
def z2L:Array Oper:=#[SC13OPSq0,SC13OPSq1,SC13OPSq2,SC13OPSq3,SC13OPSq4,SC13OPSq5,SC13OPSq6,SC13OPSq7,SC13OPSq8,SC13OPSq9,SC13OPSq10,SC13OPSq11,SC13OPSq12,SC13OPSq13,SC13OPSq14,SC13OPSq15]
set_option maxHeartbeats 2000000 in
theorem zdC {Q:Exit→Act→World→Prop} {u1 u2 u3 u4 u6 u7 u8 u9 u10 u15 u16 u17 u18 u19 u20 u21 u22 u23 u24 u25 u26 u27 u28 u29 u30 u31 u32 u33 u34 u35 u36 u37 u38 u39 u40 u41 u42 u43 u44 u45 u46 u47 u48 u49 u50 u51 u52 u53 u54 u55 u56 u57 u58 u59 u60 u61 u62 u63:Value} (W:World) (d:Int) (b5 b11 b14 gt mt ct i h k F T yn yc xn xc yn2 xn2:Nat) (ya xa:Option Addr) (Y:List Int) (lY:Y.length=32) (hi:(i:Int)<(mt:Int)) (P0:World→Prop) (P1 P2 P3:Option Addr→Nat→Option Addr→Nat→World→Prop) (h0:P0 W.drew) (t0:∀ w,P0 w→(fun w:World=>w.cell? ⟨gt,i*2,none⟩=some (.int .u8 (h:Int))∧w.cell? ⟨gt,i*2+1,none⟩=some (.int .u64 (k:Int))∧w.cell? ⟨b5,1,none⟩=some (.int .u64 (F:Int))∧w.cell? ⟨b5,2,none⟩=some (.int .u64 (T:Int))) w) (t1:∀ a b c d w,P1 a b c d w→(fun w:World=>w.cell? ⟨gt,i*2,none⟩=some (.int .u8 (h:Int))∧w.cell? ⟨gt,i*2+1,none⟩=some (.int .u64 (k:Int))∧w.cell? ⟨b5,1,none⟩=some (.int .u64 (F:Int))∧w.cell? ⟨b5,2,none⟩=some (.int .u64 (T:Int))) w) (t2:∀ a b c d w,P2 a b c d w→(fun w:World=>w.cell? ⟨gt,i*2,none⟩=some (.int .u8 (h:Int))∧w.cell? ⟨gt,i*2+1,none⟩=some (.int .u64 (k:Int))∧w.cell? ⟨b5,1,none⟩=some (.int .u64 (F:Int))∧w.cell? ⟨b5,2,none⟩=some (.int .u64 (T:Int))) w) (t3:∀ a b c d w,P3 a b c d w→(fun w:World=>w.cell? ⟨gt,i*2,none⟩=some (.int .u8 (h:Int))∧w.cell? ⟨gt,i*2+1,none⟩=some (.int .u64 (k:Int))∧w.cell? ⟨b5,1,none⟩=some (.int .u64 (F:Int))∧w.cell? ⟨b5,2,none⟩=some (.int .u64 (T:Int))) w) (r11:∀ w,P0 w→Has w b11 #[.slice ya yn yc,.slice xa xn xc] 72)
    (c0:∀ w,P0 w→Calls Tryz.prog 40 #[.int .i64 d,.agg #[.int .u8 (h:Int),.int .u64 (k:Int)],.int .u64 (F:Int),.int .u64 (T:Int),.agg #[.slice ya yn yc,.slice xa xn xc]] w fun e w'=>∃ (ya2:Option Addr) (yc2:Nat) (xa2:Option Addr) (xc2:Nat),e=.returned (.tuple #[.agg (z00 Y).toArray,.agg #[.slice ya2 yn2 yc2,.slice xa2 xn2 xc2]])∧P1 ya2 yc2 xa2 xc2 w') (st:∀ a b c d w,P1 a b c d w→Has w b14 (z00 ZND).toArray 23) (s1:∀ a b c d w,P1 a b c d w→P2 a b c d (w.setRow b14 (z00 Y).toArray)) (st2:∀ a b c d w,P2 a b c d w→Has w b11 #[.slice ya yn yc,.slice xa xn xc] 72) (s2:∀ ya2 yc2 xa2 xc2 w,P2 ya2 yc2 xa2 xc2 w→P3 ya2 yc2 xa2 xc2 (w.setRow b11 #[.slice ya2 yn2 yc2,.slice xa2 xn2 xc2])) (hQ:∀ c (a:Act) (t:Tmp) (v:Value) w,Q (.panic c) (a.put (some t) v) w→Q (.panic c) a w)
    (hfin:∀ (ya2:Option Addr) (yc2:Nat) (xa2:Option Addr) (xc2:Nat) (w:World),(P3 ya2 yc2 xa2 xc2 w)→Q .normal {tmps:=#[.int .i64 d,u1,u2,u3,u4,.pointer (some ⟨b5,0,none⟩),u6,u7,u8,u9,u10,.pointer (some ⟨b11,0,none⟩),.slice (some ⟨gt,0,none⟩) mt ct,.int .i64 (i:Int),.pointer (some ⟨b14,0,none⟩),u15,u16,u17,u18,u19,u20,u21,u22,u23,u24,u25,u26,u27,u28,u29,u30,u31,u32,u33,u34,u35,u36,u37,u38,u39,u40,u41,u42,u43,u44,.tuple #[.agg (z00 Y).toArray,.agg #[.slice ya2 yn2 yc2,.slice xa2 xn2 xc2]],.int .i64 d,.slice (some ⟨gt,0,none⟩) mt ct,.int .i64 (i:Int),.pointer (some ⟨gt,i*2,none⟩),.agg #[.int .u8 (h:Int),.int .u64 (k:Int)],.pointer (some ⟨b5,1,none⟩),.int .u64 (F:Int),.pointer (some ⟨b5,2,none⟩),.int .u64 (T:Int),.agg #[.slice ya yn yc,.slice xa xn xc],.tuple #[.agg (z00 Y).toArray,.agg #[.slice ya2 yn2 yc2,.slice xa2 xn2 xc2]],.agg (z00 Y).toArray,.agg #[.slice ya2 yn2 yc2,.slice xa2 xn2 xc2],u59,u60,u61,u62,u63],defers:=[]} w):(Code.region 13 z2L true).wp Tryz.prog Q {tmps:=#[.int .i64 d,u1,u2,u3,u4,.pointer (some ⟨b5,0,none⟩),u6,u7,u8,u9,u10,.pointer (some ⟨b11,0,none⟩),.slice (some ⟨gt,0,none⟩) mt ct,.int .i64 (i:Int),.pointer (some ⟨b14,0,none⟩),u15,u16,u17,u18,u19,u20,u21,u22,u23,u24,u25,u26,u27,u28,u29,u30,u31,u32,u33,u34,u35,u36,u37,u38,u39,u40,u41,u42,u43,u44,u45,u46,u47,u48,u49,u50,u51,u52,u53,u54,u55,u56,u57,u58,u59,u60,u61,u62,u63],defers:=[]} W:=by
  have kst9_10_14_15:∀ (ya2:Option Addr) (yc2:Nat) (xa2:Option Addr) (xc2:Nat) (w:World),(P3 ya2 yc2 xa2 xc2 w)→wpAnyH Tryz.prog .any z2L Q (fun w:World=>w.cell? ⟨gt,i*2,none⟩=some (.int .u8 (h:Int))∧w.cell? ⟨gt,i*2+1,none⟩=some (.int .u64 (k:Int))∧w.cell? ⟨b5,1,none⟩=some (.int .u64 (F:Int))∧w.cell? ⟨b5,2,none⟩=some (.int .u64 (T:Int))) 0 #[true,true,true,true,true,true,true,true,true,true,true,true,true,true,true,true] {tmps:=#[.int .i64 d,u1,u2,u3,u4,.pointer (some ⟨b5,0,none⟩),u6,u7,u8,u9,u10,.pointer (some ⟨b11,0,none⟩),.slice (some ⟨gt,0,none⟩) mt ct,.int .i64 (i:Int),.pointer (some ⟨b14,0,none⟩),u15,u16,u17,u18,u19,u20,u21,u22,u23,u24,u25,u26,u27,u28,u29,u30,u31,u32,u33,u34,u35,u36,u37,u38,u39,u40,u41,u42,u43,u44,.tuple #[.agg (z00 Y).toArray,.agg #[.slice ya2 yn2 yc2,.slice xa2 xn2 xc2]],.int .i64 d,.slice (some ⟨gt,0,none⟩) mt ct,.int .i64 (i:Int),.pointer (some ⟨gt,i*2,none⟩),.agg #[.int .u8 (h:Int),.int .u64 (k:Int)],.pointer (some ⟨b5,1,none⟩),.int .u64 (F:Int),.pointer (some ⟨b5,2,none⟩),.int .u64 (T:Int),.agg #[.slice ya yn yc,.slice xa xn xc],.tuple #[.agg (z00 Y).toArray,.agg #[.slice ya2 yn2 yc2,.slice xa2 xn2 xc2]],.agg (z00 Y).toArray,.agg #[.slice ya2 yn2 yc2,.slice xa2 xn2 xc2],u59,u60,u61,u62,u63],defers:=[]} w:=fun ya2 yc2 xa2 xc2 w hp=>by
    exact wpAnyH_done (by kernel_rfl) (hfin ya2 yc2 xa2 xc2 w hp) _
  have kst9_10_14:∀ (ya2:Option Addr) (yc2:Nat) (xa2:Option Addr) (xc2:Nat) (w:World),(P2 ya2 yc2 xa2 xc2 w)→wpAnyH Tryz.prog .any z2L Q (fun w:World=>w.cell? ⟨gt,i*2,none⟩=some (.int .u8 (h:Int))∧w.cell? ⟨gt,i*2+1,none⟩=some (.int .u64 (k:Int))∧w.cell? ⟨b5,1,none⟩=some (.int .u64 (F:Int))∧w.cell? ⟨b5,2,none⟩=some (.int .u64 (T:Int))) 1 #[true,true,true,true,true,true,true,true,true,true,true,true,true,true,true,false] {tmps:=#[.int .i64 d,u1,u2,u3,u4,.pointer (some ⟨b5,0,none⟩),u6,u7,u8,u9,u10,.pointer (some ⟨b11,0,none⟩),.slice (some ⟨gt,0,none⟩) mt ct,.int .i64 (i:Int),.pointer (some ⟨b14,0,none⟩),u15,u16,u17,u18,u19,u20,u21,u22,u23,u24,u25,u26,u27,u28,u29,u30,u31,u32,u33,u34,u35,u36,u37,u38,u39,u40,u41,u42,u43,u44,.tuple #[.agg (z00 Y).toArray,.agg #[.slice ya2 yn2 yc2,.slice xa2 xn2 xc2]],.int .i64 d,.slice (some ⟨gt,0,none⟩) mt ct,.int .i64 (i:Int),.pointer (some ⟨gt,i*2,none⟩),.agg #[.int .u8 (h:Int),.int .u64 (k:Int)],.pointer (some ⟨b5,1,none⟩),.int .u64 (F:Int),.pointer (some ⟨b5,2,none⟩),.int .u64 (T:Int),.agg #[.slice ya yn yc,.slice xa xn xc],.tuple #[.agg (z00 Y).toArray,.agg #[.slice ya2 yn2 yc2,.slice xa2 xn2 xc2]],.agg (z00 Y).toArray,.agg #[.slice ya2 yn2 yc2,.slice xa2 xn2 xc2],u59,u60,u61,u62,u63],defers:=[]} w:=fun ya2 yc2 xa2 xc2 w hp=>by
    refine wpAnyH_ready (rs:=[15]) (by kernel_rfl) (by simp) ?_
    refine AllReadyH.cons (o:=SC13OPSq15) rfl (fun KQ hKQ=>?_) ?_
    · exact z0J (by rfl) (z0W (z2F (st2 _ _ _ _ _ hp) rfl)) (have hp:(fun (ya2:Option Addr) (yc2:Nat) (xa2:Option Addr) (xc2:Nat) (w:World)=>(P3 ya2 yc2 xa2 xc2 w)) ya2 yc2 xa2 xc2 _:=s2 _ _ _ _ w hp;hKQ.out _ _ (t3 _ _ _ _ _ hp) (fun _=>kst9_10_14_15 ya2 yc2 xa2 xc2 _ hp))
    exact AllReadyH.nil
  have kst9:∀ (w:World),(P0 w)→wpAnyH Tryz.prog .any z2L Q (fun w:World=>w.cell? ⟨gt,i*2,none⟩=some (.int .u8 (h:Int))∧w.cell? ⟨gt,i*2+1,none⟩=some (.int .u64 (k:Int))∧w.cell? ⟨b5,1,none⟩=some (.int .u64 (F:Int))∧w.cell? ⟨b5,2,none⟩=some (.int .u64 (T:Int))) 6 #[true,true,true,true,true,true,true,true,true,true,false,false,false,false,false,false] {tmps:=#[.int .i64 d,u1,u2,u3,u4,.pointer (some ⟨b5,0,none⟩),u6,u7,u8,u9,u10,.pointer (some ⟨b11,0,none⟩),.slice (some ⟨gt,0,none⟩) mt ct,.int .i64 (i:Int),.pointer (some ⟨b14,0,none⟩),u15,u16,u17,u18,u19,u20,u21,u22,u23,u24,u25,u26,u27,u28,u29,u30,u31,u32,u33,u34,u35,u36,u37,u38,u39,u40,u41,u42,u43,u44,u45,.int .i64 d,.slice (some ⟨gt,0,none⟩) mt ct,.int .i64 (i:Int),.pointer (some ⟨gt,i*2,none⟩),.agg #[.int .u8 (h:Int),.int .u64 (k:Int)],.pointer (some ⟨b5,1,none⟩),.int .u64 (F:Int),.pointer (some ⟨b5,2,none⟩),.int .u64 (T:Int),.agg #[.slice ya yn yc,.slice xa xn xc],u56,u57,u58,u59,u60,u61,u62,u63],defers:=[]} w:=fun  w hp=>by
    refine wpAnyH_ready (rs:=[10]) (by kernel_rfl) (by simp) ?_
    refine AllReadyH.cons (o:=SC13OPSq10) rfl (fun KQ hKQ=>?_) ?_
    · rw [if_pos (by rfl)]
      go_simp
      refine (show Calls _ _ _ w (fun e w'=>∃ (ya2:Option Addr) (yc2:Nat) (xa2:Option Addr) (xc2:Nat),e=.returned (.tuple #[.agg (z00 Y).toArray,.agg #[.slice ya2 yn2 yc2,.slice xa2 xn2 xc2]])∧(P1 ya2 yc2 xa2 xc2 w')) from c0 w hp).mono ?_
      rintro e w ⟨ya2,yc2,xa2,xc2,rfl,hp⟩
      refine hKQ.out _ _ (t1 _ _ _ _ _ hp) (fun _=>?_)
      simp only [List.setIfInBounds_toArray,List.set]
      have hww:(fun w:World=>w.cell? ⟨gt,i*2,none⟩=some (.int .u8 (h:Int))∧w.cell? ⟨gt,i*2+1,none⟩=some (.int .u64 (k:Int))∧w.cell? ⟨b5,1,none⟩=some (.int .u64 (F:Int))∧w.cell? ⟨b5,2,none⟩=some (.int .u64 (T:Int))) w:=t1 _ _ _ _ _ hp
      refine tkP SC13OPSq11 (.tuple #[.agg (z00 Y).toArray,.agg #[.slice ya2 yn2 yc2,.slice xa2 xn2 xc2]]) 11 hQ hww ?_
      simp only [List.set]
      refine tkP SC13OPSq12 (.agg (z00 Y).toArray) 12 hQ hww ?_
      simp only [List.set]
      refine tkP SC13OPSq13 (.agg #[.slice ya2 yn2 yc2,.slice xa2 xn2 xc2]) 13 hQ hww ?_
      simp only [List.set]
      refine wpAnyH_ready (rs:=[14]) (by kernel_rfl) (by simp) ?_
      refine AllReadyH.cons (o:=SC13OPSq14) rfl (fun KQ hKQ=>?_) ?_
      · exact z0J (by rfl) (z0W (z1D (st _ _ _ _ _ hp) rfl lY)) (have hp:(fun (ya2:Option Addr) (yc2:Nat) (xa2:Option Addr) (xc2:Nat) (w:World)=>(P2 ya2 yc2 xa2 xc2 w)) ya2 yc2 xa2 xc2 _:=s1 _ _ _ _ w hp;hKQ.out _ _ (t2 _ _ _ _ _ hp) (fun _=>kst9_10_14 ya2 yc2 xa2 xc2 _ hp))
      exact AllReadyH.nil
    exact AllReadyH.nil
  have kst:∀ (w:World),(P0 w)→wpAnyH Tryz.prog .any z2L Q (fun w:World=>w.cell? ⟨gt,i*2,none⟩=some (.int .u8 (h:Int))∧w.cell? ⟨gt,i*2+1,none⟩=some (.int .u64 (k:Int))∧w.cell? ⟨b5,1,none⟩=some (.int .u64 (F:Int))∧w.cell? ⟨b5,2,none⟩=some (.int .u64 (T:Int))) 7 #[true,true,true,true,true,true,true,true,true,false,false,false,false,false,false,false] {tmps:=#[.int .i64 d,u1,u2,u3,u4,.pointer (some ⟨b5,0,none⟩),u6,u7,u8,u9,u10,.pointer (some ⟨b11,0,none⟩),.slice (some ⟨gt,0,none⟩) mt ct,.int .i64 (i:Int),.pointer (some ⟨b14,0,none⟩),u15,u16,u17,u18,u19,u20,u21,u22,u23,u24,u25,u26,u27,u28,u29,u30,u31,u32,u33,u34,u35,u36,u37,u38,u39,u40,u41,u42,u43,u44,u45,.int .i64 d,.slice (some ⟨gt,0,none⟩) mt ct,.int .i64 (i:Int),.pointer (some ⟨gt,i*2,none⟩),.agg #[.int .u8 (h:Int),.int .u64 (k:Int)],.pointer (some ⟨b5,1,none⟩),.int .u64 (F:Int),.pointer (some ⟨b5,2,none⟩),.int .u64 (T:Int),u55,u56,u57,u58,u59,u60,u61,u62,u63],defers:=[]} w:=fun  w hp=>by
    refine wpAnyH_ready (rs:=[9]) (by kernel_rfl) (by simp) ?_
    refine AllReadyH.cons (o:=SC13OPSq9) rfl (fun KQ hKQ=>?_) ?_
    · exact z1C (by rfl) (z8U (zce (r11 w hp))) (have hp:(fun (w:World)=>(P0 w))  _:=hp;hKQ.out _ _ (t0 _ hp) (fun _=>kst9  _ hp))
    exact AllReadyH.nil
  have hp:=h0
  have hww:(fun w:World=>w.cell? ⟨gt,i*2,none⟩=some (.int .u8 (h:Int))∧w.cell? ⟨gt,i*2+1,none⟩=some (.int .u64 (k:Int))∧w.cell? ⟨b5,1,none⟩=some (.int .u64 (F:Int))∧w.cell? ⟨b5,2,none⟩=some (.int .u64 (T:Int))) W.drew:=t0 _ hp
  have last:=kst W.drew hp
  have z:wpAnyH Tryz.prog .any z2L Q (fun w:World=>w.cell? ⟨gt,i*2,none⟩=some (.int .u8 (h:Int))∧w.cell? ⟨gt,i*2+1,none⟩=some (.int .u64 (k:Int))∧w.cell? ⟨b5,1,none⟩=some (.int .u64 (F:Int))∧w.cell? ⟨b5,2,none⟩=some (.int .u64 (T:Int))) 16 #[false,false,false,false,false,false,false,false,false,false,false,false,false,false,false,false] {tmps:=#[.int .i64 d,u1,u2,u3,u4,.pointer (some ⟨b5,0,none⟩),u6,u7,u8,u9,u10,.pointer (some ⟨b11,0,none⟩),.slice (some ⟨gt,0,none⟩) mt ct,.int .i64 (i:Int),.pointer (some ⟨b14,0,none⟩),u15,u16,u17,u18,u19,u20,u21,u22,u23,u24,u25,u26,u27,u28,u29,u30,u31,u32,u33,u34,u35,u36,u37,u38,u39,u40,u41,u42,u43,u44,u45,u46,u47,u48,u49,u50,u51,u52,u53,u54,u55,u56,u57,u58,u59,u60,u61,u62,u63],defers:=[]} W.drew:=by
    refine tkP SC13OPSq0 (.int .i64 d) 0 hQ hww ?_
    simp only [List.set]
    refine tkP SC13OPSq1 (.slice (some ⟨gt,0,none⟩) mt ct) 1 hQ hww ?_
    simp only [List.set]
    refine tkP SC13OPSq2 (.int .i64 (i:Int)) 2 hQ hww ?_
    simp only [List.set]
    refine tkH SC13OPSq3 (.pointer (some ⟨gt,i*2,none⟩)) 3 hQ (Or.inl ⟨by rfl,fun w hw=>by have hx:=hi;go_simp⟩) hww ?_
    simp only [List.set]
    refine tkH SC13OPSq4 (.agg #[.int .u8 (h:Int),.int .u64 (k:Int)]) 4 hQ (Or.inl ⟨by rfl,fun w hw=>by have hx:=hw.1;have hy:=hw.2.1;go_simp⟩) hww ?_
    simp only [List.set]
    refine tkP SC13OPSq5 (.pointer (some ⟨b5,1,none⟩)) 5 hQ hww ?_
    simp only [List.set]
    refine tkH SC13OPSq6 (.int .u64 (F:Int)) 6 hQ (Or.inl ⟨by rfl,fun w hw=>by have hx:=hw.2.2.1;go_simp⟩) hww ?_
    simp only [List.set]
    refine tkP SC13OPSq7 (.pointer (some ⟨b5,2,none⟩)) 7 hQ hww ?_
    simp only [List.set]
    refine tkH SC13OPSq8 (.int .u64 (T:Int)) 8 hQ (Or.inl ⟨by rfl,fun w hw=>by have hx:=hw.2.2.2;go_simp⟩) hww ?_
    simp only [List.set]
    exact last
  exact wp_region_held_drew (S:=(fun w:World=>w.cell? ⟨gt,i*2,none⟩=some (.int .u8 (h:Int))∧w.cell? ⟨gt,i*2+1,none⟩=some (.int .u64 (k:Int))∧w.cell? ⟨b5,1,none⟩=some (.int .u64 (F:Int))∧w.cell? ⟨b5,2,none⟩=some (.int .u64 (T:Int)))) (by kernel_rfl) hww (fun _=>z)
end Go.Proofs.YthdpkaiieomdoaaGreatDoor
