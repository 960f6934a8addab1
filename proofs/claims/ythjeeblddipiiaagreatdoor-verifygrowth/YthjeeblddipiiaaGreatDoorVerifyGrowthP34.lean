/- Texts of VerifyGrowth, one behind the other: VerifyAwakeStart, VerifyAwake, VerifyTexts. -/
import Derived.Test.YthjeeblddipiiaaGreatDoorVerifyGrowthP8
import Derived.Test.YthjeeblddipiiaaGreatDoorVerifyGrowthP14
import Derived.Test.YthjeeblddipiiaaGreatDoorVerifyGrowthP15
import Derived.Test.YthjeeblddipiiaaGreatDoorVerifyGrowthP32
import Derived.Test.YthjeeblddipiiaaGreatDoorVerifyGrowthP33
namespace Go.Proofs.YthjeeblddipiiaaGreatDoor
open Go.RowKit
set_option maxRecDepth 100000
theorem z1F {ops:Array Oper} {rest:List Oper} {o:Oper} {a:Act} {w w':World} {Q:Exit→Act→World→Prop} {v:Value} (hw:Region.wanted o (yielded ops a.tmps)=true) (hrun:(execOp a.eval o).run Tryz.prog w=.ok (.value v) w')
    (h:wpList Tryz.prog ops Q rest (a.put o.dst v) w'):wpList Tryz.prog ops Q (o :: rest) a w:=
  wpList_step fun K hK=>by
    rw [if_pos hw]
    unfold Oper.wp
    rw [hrun]
    exact hK _ _ h
theorem zbD {ops:Array Oper} {a:Act} {w:World} {Q:Exit→Act→World→Prop} (h:Q .normal a w):wpList Tryz.prog ops Q [] a w:=h
theorem z3d {B g:Nat} {w0 w:World} (hb:Below B w0 w) (hBg:B≤g) (cs:Array Value):Below B w0 (w.setRow g cs):=
  ⟨hb.os,hb.tape,hb.output,by have:=hb.size;simpa [World.setRow] using this,fun k hk=>by rw [setRow_other w g k cs (by omega)];exact hb.block k hk⟩
def AXOPS:List Oper:=[⟨some 9,.build 32 #[(0,.const (.int .u8 1))],32,"law.go:17",#[],none⟩,⟨some 10,.build 32 #[(0,.const (.int .u8 2))],32,"law.go:17",#[],none⟩,⟨some 11,.build 32 #[(0,.const (.int .u8 3))],32,"law.go:17",#[],none⟩,⟨some 1,.alloc 32,0,"law.go:17",#[],none⟩,⟨some 2,.alloc 32,0,"law.go:17",#[],none⟩,⟨some 3,.alloc 32,0,"law.go:17",#[],none⟩,⟨none,.store 32 (.tmp 1) (.tmp 9),0,"law.go:17",#[⟨3,.data⟩,⟨0,.data⟩,⟨0,.phase⟩,{on:=1,ground:=.textOnly Departure.lateStoresUnsure},{on:=2,ground:=.textOnly Departure.lateStoresUnsure},⟨3,.phase⟩,⟨4,.phase⟩,⟨5,.phase⟩],none⟩,⟨none,.store 32 (.tmp 2) (.tmp 10),0,"law.go:17",#[⟨4,.data⟩,⟨1,.data⟩,⟨6,.chain⟩,⟨0,.phase⟩,⟨1,.phase⟩,{on:=2,ground:=.textOnly Departure.lateStoresUnsure},⟨3,.phase⟩,⟨4,.phase⟩,⟨5,.phase⟩,⟨6,.phase⟩],none⟩,⟨none,.store 32 (.tmp 3) (.tmp 11),0,"law.go:17",#[⟨5,.data⟩,⟨2,.data⟩,⟨7,.chain⟩,⟨0,.phase⟩,⟨1,.phase⟩,⟨2,.phase⟩,⟨3,.phase⟩,⟨4,.phase⟩,⟨5,.phase⟩,⟨6,.phase⟩,⟨7,.phase⟩],none⟩]
set_option maxHeartbeats 2000000 in
theorem z9t {Q:Exit→Act→World→Prop} (u1 u2 u3 u4 u5 u6 u7 u8 u9 u10 u11 u12 u13 u14 u15 u16 u17 u18 u19 u20 u21 u22 u23 u24 u25 u26 u27 u28 u29 u30 u31 u32 u33 u34 u35 u36 u37 u38 u39 u40 u41 u42 u43 u44 u45 u46 u47 u48 u49 u50 u51 u52 u53 u54 u55 u56 u57 u58 u59 u60 u61 u62 u63 u64 u65 u66 u67:Value) (w:World) (A B C:List Int) (lA:A.length=32) (lB:B.length=32) (lC:C.length=32) (hA:#[.int .u8 1,.int .u8 0,.int .u8 0,.int .u8 0,.int .u8 0,.int .u8 0,.int .u8 0,.int .u8 0,.int .u8 0,.int .u8 0,.int .u8 0,.int .u8 0,.int .u8 0,.int .u8 0,.int .u8 0,.int .u8 0,.int .u8 0,.int .u8 0,.int .u8 0,.int .u8 0,.int .u8 0,.int .u8 0,.int .u8 0,.int .u8 0,.int .u8 0,.int .u8 0,.int .u8 0,.int .u8 0,.int .u8 0,.int .u8 0,.int .u8 0,.int .u8 0]=(z00 A).toArray) (hB:#[.int .u8 2,.int .u8 0,.int .u8 0,.int .u8 0,.int .u8 0,.int .u8 0,.int .u8 0,.int .u8 0,.int .u8 0,.int .u8 0,.int .u8 0,.int .u8 0,.int .u8 0,.int .u8 0,.int .u8 0,.int .u8 0,.int .u8 0,.int .u8 0,.int .u8 0,.int .u8 0,.int .u8 0,.int .u8 0,.int .u8 0,.int .u8 0,.int .u8 0,.int .u8 0,.int .u8 0,.int .u8 0,.int .u8 0,.int .u8 0,.int .u8 0,.int .u8 0]=(z00 B).toArray) (hC:#[.int .u8 3,.int .u8 0,.int .u8 0,.int .u8 0,.int .u8 0,.int .u8 0,.int .u8 0,.int .u8 0,.int .u8 0,.int .u8 0,.int .u8 0,.int .u8 0,.int .u8 0,.int .u8 0,.int .u8 0,.int .u8 0,.int .u8 0,.int .u8 0,.int .u8 0,.int .u8 0,.int .u8 0,.int .u8 0,.int .u8 0,.int .u8 0,.int .u8 0,.int .u8 0,.int .u8 0,.int .u8 0,.int .u8 0,.int .u8 0,.int .u8 0,.int .u8 0]=(z00 C).toArray)
    (h:∀ W,Below w.heap.size w W→Has W w.heap.size (z00 A).toArray 32→Has W (w.heap.size+1) (z00 B).toArray 32→Has W (w.heap.size+1+1) (z00 C).toArray 32→w.heap.size+1+1<W.heap.size→Q .normal {tmps:=#[.bool false,.pointer (some ⟨w.heap.size,0,none⟩),.pointer (some ⟨(w.heap.size+1),0,none⟩),.pointer (some ⟨(w.heap.size+1+1),0,none⟩),u4,u5,u6,u7,u8,.agg (z00 A).toArray,.agg (z00 B).toArray,.agg (z00 C).toArray,u12,u13,u14,u15,u16,u17,u18,u19,u20,u21,u22,u23,u24,u25,u26,u27,u28,u29,u30,u31,u32,u33,u34,u35,u36,u37,u38,u39,u40,u41,u42,u43,u44,u45,u46,u47,u48,u49,u50,u51,u52,u53,u54,u55,u56,u57,u58,u59,u60,u61,u62,u63,u64,u65,u66,u67],defers:=[]} W):(Code.region 1 AXOPS.toArray false).wp Tryz.prog Q {tmps:=#[.bool false,u1,u2,u3,u4,u5,u6,u7,u8,u9,u10,u11,u12,u13,u14,u15,u16,u17,u18,u19,u20,u21,u22,u23,u24,u25,u26,u27,u28,u29,u30,u31,u32,u33,u34,u35,u36,u37,u38,u39,u40,u41,u42,u43,u44,u45,u46,u47,u48,u49,u50,u51,u52,u53,u54,u55,u56,u57,u58,u59,u60,u61,u62,u63,u64,u65,u66,u67],defers:=[]} w:=by
  have n1:Has (((w.alloc (.cells ZARR 32)).alloc (.cells ZARR 32)).alloc (.cells ZARR 32)) w.heap.size ZARR 32:=((Has.new w _ _).alloc _).alloc _
  have n2:Has (((w.alloc (.cells ZARR 32)).alloc (.cells ZARR 32)).alloc (.cells ZARR 32)) (w.heap.size+1) ZARR 32:=(Has.at _ _ _ (by simp)).alloc _
  have n3:Has (((w.alloc (.cells ZARR 32)).alloc (.cells ZARR 32)).alloc (.cells ZARR 32)) (w.heap.size+1+1) ZARR 32:=Has.at _ _ _ (by simp)
  have nb:Below w.heap.size w (((w.alloc (.cells ZARR 32)).alloc (.cells ZARR 32)).alloc (.cells ZARR 32)):=(((Below.refl _ _).alloc (Nat.le_refl _) _).alloc (by simp) _).alloc (by simp;omega) _
  have s32:∀ {X:List Int},X.length=32→ZARR.size=(z00 X).toArray.size:=fun {X} h=>by
    have e:(z00 X).toArray.size=32:=by simp [z00,h]
    rw [e]
    rfl
  have f1:=n1.row (z00 A).toArray
  have f2:=(n2.row_other (k:=w.heap.size) (by omega) (z00 A).toArray)
  have f3:=(n3.row_other (k:=w.heap.size) (by omega) (z00 A).toArray)
  have nb1:Below w.heap.size w ((((w.alloc (.cells ZARR 32)).alloc (.cells ZARR 32)).alloc (.cells ZARR 32)).setRow w.heap.size (z00 A).toArray):=z3d nb (Nat.le_refl _) _
  have nb2:Below w.heap.size w (((((w.alloc (.cells ZARR 32)).alloc (.cells ZARR 32)).alloc (.cells ZARR 32)).setRow w.heap.size (z00 A).toArray).setRow (w.heap.size+1) (z00 B).toArray):=z3d nb1 (by omega) _
  have nb3:Below w.heap.size w ((((((w.alloc (.cells ZARR 32)).alloc (.cells ZARR 32)).alloc (.cells ZARR 32)).setRow w.heap.size (z00 A).toArray).setRow (w.heap.size+1) (z00 B).toArray).setRow (w.heap.size+1+1) (z00 C).toArray):=z3d nb2 (by omega) _
  have e3:=h ((((((w.alloc (.cells ZARR 32)).alloc (.cells ZARR 32)).alloc (.cells ZARR 32)).setRow w.heap.size (z00 A).toArray).setRow (w.heap.size+1) (z00 B).toArray).setRow (w.heap.size+1+1) (z00 C).toArray) nb3 ((f1.row_other (by omega) _).row_other (by omega) _) ((f2.row _).row_other (by omega) _) ((f3.row_other (by omega) _).row _) ((f3.row_other (by omega) _).row _).lt
  have hE:wpList Tryz.prog AXOPS.toArray Q [] {tmps:=#[.bool false,.pointer (some ⟨w.heap.size,0,none⟩),.pointer (some ⟨(w.heap.size+1),0,none⟩),.pointer (some ⟨(w.heap.size+1+1),0,none⟩),u4,u5,u6,u7,u8,.agg (z00 A).toArray,.agg (z00 B).toArray,.agg (z00 C).toArray,u12,u13,u14,u15,u16,u17,u18,u19,u20,u21,u22,u23,u24,u25,u26,u27,u28,u29,u30,u31,u32,u33,u34,u35,u36,u37,u38,u39,u40,u41,u42,u43,u44,u45,u46,u47,u48,u49,u50,u51,u52,u53,u54,u55,u56,u57,u58,u59,u60,u61,u62,u63,u64,u65,u66,u67],defers:=[]} ((((((w.alloc (.cells ZARR 32)).alloc (.cells ZARR 32)).alloc (.cells ZARR 32)).setRow w.heap.size (z00 A).toArray).setRow (w.heap.size+1) (z00 B).toArray).setRow (w.heap.size+1+1) (z00 C).toArray):=zbD e3
  have t8:wpList Tryz.prog AXOPS.toArray Q (AXOPS.drop 8) {tmps:=#[.bool false,.pointer (some ⟨w.heap.size,0,none⟩),.pointer (some ⟨(w.heap.size+1),0,none⟩),.pointer (some ⟨(w.heap.size+1+1),0,none⟩),u4,u5,u6,u7,u8,.agg (z00 A).toArray,.agg (z00 B).toArray,.agg (z00 C).toArray,u12,u13,u14,u15,u16,u17,u18,u19,u20,u21,u22,u23,u24,u25,u26,u27,u28,u29,u30,u31,u32,u33,u34,u35,u36,u37,u38,u39,u40,u41,u42,u43,u44,u45,u46,u47,u48,u49,u50,u51,u52,u53,u54,u55,u56,u57,u58,u59,u60,u61,u62,u63,u64,u65,u66,u67],defers:=[]} (((((w.alloc (.cells ZARR 32)).alloc (.cells ZARR 32)).alloc (.cells ZARR 32)).setRow w.heap.size (z00 A).toArray).setRow (w.heap.size+1) (z00 B).toArray):=wpList_store_row rfl 32 (.tmp 3) (.tmp 11) rfl (w.heap.size+1+1) _ rfl rfl 32 ZARR (f3.row_other (by omega) _) (z08 lC) (s32 lC) (z0l C) hE
  have t7:wpList Tryz.prog AXOPS.toArray Q (AXOPS.drop 7) {tmps:=#[.bool false,.pointer (some ⟨w.heap.size,0,none⟩),.pointer (some ⟨(w.heap.size+1),0,none⟩),.pointer (some ⟨(w.heap.size+1+1),0,none⟩),u4,u5,u6,u7,u8,.agg (z00 A).toArray,.agg (z00 B).toArray,.agg (z00 C).toArray,u12,u13,u14,u15,u16,u17,u18,u19,u20,u21,u22,u23,u24,u25,u26,u27,u28,u29,u30,u31,u32,u33,u34,u35,u36,u37,u38,u39,u40,u41,u42,u43,u44,u45,u46,u47,u48,u49,u50,u51,u52,u53,u54,u55,u56,u57,u58,u59,u60,u61,u62,u63,u64,u65,u66,u67],defers:=[]} ((((w.alloc (.cells ZARR 32)).alloc (.cells ZARR 32)).alloc (.cells ZARR 32)).setRow w.heap.size (z00 A).toArray):=wpList_store_row rfl 32 (.tmp 2) (.tmp 10) rfl (w.heap.size+1) _ rfl rfl 32 ZARR f2 (z08 lB) (s32 lB) (z0l B) t8
  have t6:wpList Tryz.prog AXOPS.toArray Q (AXOPS.drop 6) {tmps:=#[.bool false,.pointer (some ⟨w.heap.size,0,none⟩),.pointer (some ⟨(w.heap.size+1),0,none⟩),.pointer (some ⟨(w.heap.size+1+1),0,none⟩),u4,u5,u6,u7,u8,.agg (z00 A).toArray,.agg (z00 B).toArray,.agg (z00 C).toArray,u12,u13,u14,u15,u16,u17,u18,u19,u20,u21,u22,u23,u24,u25,u26,u27,u28,u29,u30,u31,u32,u33,u34,u35,u36,u37,u38,u39,u40,u41,u42,u43,u44,u45,u46,u47,u48,u49,u50,u51,u52,u53,u54,u55,u56,u57,u58,u59,u60,u61,u62,u63,u64,u65,u66,u67],defers:=[]} (((w.alloc (.cells ZARR 32)).alloc (.cells ZARR 32)).alloc (.cells ZARR 32)):=wpList_store_row rfl 32 (.tmp 1) (.tmp 9) rfl w.heap.size _ rfl rfl 32 ZARR n1 (z08 lA) (s32 lA) (z0l A) t7
  have t5:wpList Tryz.prog AXOPS.toArray Q (AXOPS.drop 5) {tmps:=#[.bool false,.pointer (some ⟨w.heap.size,0,none⟩),.pointer (some ⟨(w.heap.size+1),0,none⟩),u3,u4,u5,u6,u7,u8,.agg (z00 A).toArray,.agg (z00 B).toArray,.agg (z00 C).toArray,u12,u13,u14,u15,u16,u17,u18,u19,u20,u21,u22,u23,u24,u25,u26,u27,u28,u29,u30,u31,u32,u33,u34,u35,u36,u37,u38,u39,u40,u41,u42,u43,u44,u45,u46,u47,u48,u49,u50,u51,u52,u53,u54,u55,u56,u57,u58,u59,u60,u61,u62,u63,u64,u65,u66,u67],defers:=[]} ((w.alloc (.cells ZARR 32)).alloc (.cells ZARR 32)):=z1F (v:=.pointer (some ⟨(w.heap.size+1+1),0,none⟩)) (w':=(((w.alloc (.cells ZARR 32)).alloc (.cells ZARR 32)).alloc (.cells ZARR 32))) rfl (by first | rfl | (go_simp;rfl) | go_simp) t6
  have t4:wpList Tryz.prog AXOPS.toArray Q (AXOPS.drop 4) {tmps:=#[.bool false,.pointer (some ⟨w.heap.size,0,none⟩),u2,u3,u4,u5,u6,u7,u8,.agg (z00 A).toArray,.agg (z00 B).toArray,.agg (z00 C).toArray,u12,u13,u14,u15,u16,u17,u18,u19,u20,u21,u22,u23,u24,u25,u26,u27,u28,u29,u30,u31,u32,u33,u34,u35,u36,u37,u38,u39,u40,u41,u42,u43,u44,u45,u46,u47,u48,u49,u50,u51,u52,u53,u54,u55,u56,u57,u58,u59,u60,u61,u62,u63,u64,u65,u66,u67],defers:=[]} (w.alloc (.cells ZARR 32)):=z1F (v:=.pointer (some ⟨(w.heap.size+1),0,none⟩)) (w':=((w.alloc (.cells ZARR 32)).alloc (.cells ZARR 32))) rfl (by first | rfl | (go_simp;rfl) | go_simp) t5
  have t3:wpList Tryz.prog AXOPS.toArray Q (AXOPS.drop 3) {tmps:=#[.bool false,u1,u2,u3,u4,u5,u6,u7,u8,.agg (z00 A).toArray,.agg (z00 B).toArray,.agg (z00 C).toArray,u12,u13,u14,u15,u16,u17,u18,u19,u20,u21,u22,u23,u24,u25,u26,u27,u28,u29,u30,u31,u32,u33,u34,u35,u36,u37,u38,u39,u40,u41,u42,u43,u44,u45,u46,u47,u48,u49,u50,u51,u52,u53,u54,u55,u56,u57,u58,u59,u60,u61,u62,u63,u64,u65,u66,u67],defers:=[]} w:=z1F (v:=.pointer (some ⟨w.heap.size,0,none⟩)) (w':=(w.alloc (.cells ZARR 32))) rfl (by first | rfl | (go_simp;rfl) | go_simp) t4
  have t2:wpList Tryz.prog AXOPS.toArray Q (AXOPS.drop 2) {tmps:=#[.bool false,u1,u2,u3,u4,u5,u6,u7,u8,.agg (z00 A).toArray,.agg (z00 B).toArray,u11,u12,u13,u14,u15,u16,u17,u18,u19,u20,u21,u22,u23,u24,u25,u26,u27,u28,u29,u30,u31,u32,u33,u34,u35,u36,u37,u38,u39,u40,u41,u42,u43,u44,u45,u46,u47,u48,u49,u50,u51,u52,u53,u54,u55,u56,u57,u58,u59,u60,u61,u62,u63,u64,u65,u66,u67],defers:=[]} w:=z1F (v:=.agg (z00 C).toArray) (w':=w) rfl (by rw [← hC];first | rfl | kernel_rfl | go_simp) t3
  have t1:wpList Tryz.prog AXOPS.toArray Q (AXOPS.drop 1) {tmps:=#[.bool false,u1,u2,u3,u4,u5,u6,u7,u8,.agg (z00 A).toArray,u10,u11,u12,u13,u14,u15,u16,u17,u18,u19,u20,u21,u22,u23,u24,u25,u26,u27,u28,u29,u30,u31,u32,u33,u34,u35,u36,u37,u38,u39,u40,u41,u42,u43,u44,u45,u46,u47,u48,u49,u50,u51,u52,u53,u54,u55,u56,u57,u58,u59,u60,u61,u62,u63,u64,u65,u66,u67],defers:=[]} w:=z1F (v:=.agg (z00 B).toArray) (w':=w) rfl (by rw [← hB];first | rfl | kernel_rfl | go_simp) t2
  have t0:wpList Tryz.prog AXOPS.toArray Q (AXOPS.drop 0) {tmps:=#[.bool false,u1,u2,u3,u4,u5,u6,u7,u8,u9,u10,u11,u12,u13,u14,u15,u16,u17,u18,u19,u20,u21,u22,u23,u24,u25,u26,u27,u28,u29,u30,u31,u32,u33,u34,u35,u36,u37,u38,u39,u40,u41,u42,u43,u44,u45,u46,u47,u48,u49,u50,u51,u52,u53,u54,u55,u56,u57,u58,u59,u60,u61,u62,u63,u64,u65,u66,u67],defers:=[]} w:=z1F (v:=.agg (z00 A).toArray) (w':=w) rfl (by rw [← hA];first | rfl | kernel_rfl | go_simp) t1
  exact wp_region_lit t0
end Go.Proofs.YthjeeblddipiiaaGreatDoor

namespace Go.Proofs.YthjeeblddipiiaaGreatDoor
open Go.RowKit
set_option maxRecDepth 100000
theorem z8H (m:Int):#[.int .u8 m,.int .u8 0,.int .u8 0,.int .u8 0,.int .u8 0,.int .u8 0,.int .u8 0,.int .u8 0,.int .u8 0,.int .u8 0,.int .u8 0,.int .u8 0,.int .u8 0,.int .u8 0,.int .u8 0,.int .u8 0,.int .u8 0,.int .u8 0,.int .u8 0,.int .u8 0,.int .u8 0,.int .u8 0,.int .u8 0,.int .u8 0,.int .u8 0,.int .u8 0,.int .u8 0,.int .u8 0,.int .u8 0,.int .u8 0,.int .u8 0,.int .u8 0]=(z00 (HB m)).toArray:=rfl
theorem zeY (z:Value) (C D:List Int) (hC:C.length=32) (hD:D.length=32):Instr.fill (fun i=>some (i*32,32)) ((Array.range (2*32)).map (z.cells[· % z.cells.size]!)) [(0,.agg (z00 C).toArray),(1,.agg (z00 D).toArray)]=some (z00 (C ++ D)).toArray:=by
  have:=Great.fill_whole (s:=32) (by decide) [.agg (z00 C).toArray,.agg (z00 D).toArray] ((Array.range (2*32)).map (z.cells[· % z.cells.size]!)) (fun v hv=>by
    simp at hv
    rcases hv with rfl | rfl
    · simp [Value.cells,z00,hC]
    · simp [Value.cells,z00,hD]) (by simp)
  rw [z0y]
  generalize (Array.range (2*32)).map (z.cells[· % z.cells.size]!)=zz at *
  simpa [Value.cells] using this
theorem zdf {ops:Array Oper} {rest:List Oper} {o:Oper} {a:Act} {Q:Exit→Act→World→Prop} (w:World) (hg:o.guard=none) (x y:Operand) (ho:o.op=.buildSlice 22 2 #[(0,x),(1,y)]) (C D:List Int) (hx:a.eval x=.agg (z00 C).toArray) (hy:a.eval y=.agg (z00 D).toArray) (hC:C.length=32) (hD:D.length=32)
    (h:wpList Tryz.prog ops Q rest (a.put o.dst (.slice (some ⟨w.heap.size,0,none⟩) 2 2)) (w.alloc (.cells (z00 (C ++ D)).toArray 32))):wpList Tryz.prog ops Q (o :: rest) a w:=by
  obtain ⟨i,hie,hz',hs1,_⟩:=info_parts z2g
  refine wpList_buildSlice hg 22 32 2 _ ho (z00 (C ++ D)).toArray i _ Tryz.underlying22 hie hz' (by rw [hs1];omega) (by rw [hs1];omega) ?_ h
  rw [hs1]
  have e:(#[(0,x),(1,y)].map fun (p:Nat × Operand)=>(p.1,a.eval p.2)).toList=[(0,.agg (z00 C).toArray),(1,.agg (z00 D).toArray)]:=by simp [hx,hy]
  rw [e]
  exact zeY _ C D hC hD
theorem z2P {w:World} {base:Nat} {t:TypeId} {s:Nat} {v:Value} {n:Nat} {xs:List Value} (h:w.ownsRow base t s v n xs):∃ ad cap,v=.slice ad n cap∧n≤cap∧(0<n→∃ g,ad=some ⟨g,0,none⟩∧base≤g∧g<w.heap.size):=by
  rcases h.2 with ⟨rfl,h0⟩ | ⟨g,cap,cur,rfl,hb,hg,r⟩
  · subst h0
    exact ⟨none,0,rfl,Nat.le_refl _,fun h=>by omega⟩
  · exact ⟨_,cap,rfl,r.1,fun _=>⟨g,rfl,hb,(Array.getElem?_eq_some_iff.1 hg).1⟩⟩
theorem z7o {W:World} {g:Nat} {l:List Int} (h:Has W g (z00 l).toArray 32) (hl:IsH l):Bytes W (some ⟨g,0,none⟩) 32 l:=
  ⟨hl.1,fun _=>⟨g,0,rfl,h.lt,fun i hi=>by rw [Nat.zero_add,h.cell,List.getElem?_toArray,z0z l i (by rw [hl.1];exact hi)]⟩,hl.2⟩
theorem zbE (w3:World) (g1 g3:Nat) (A C:List Int) (h1:Has w3 g1 (z00 A).toArray 32) (h3:Has w3 g3 (z00 C).toArray 32) (iA:IsH A) (iC:IsH C):
    Aside (Bytes (w3.drew.alloc (.cells #[.int .u8 77,.int .u8 3,.int .u8 1] 5)) (some ⟨g1,0,none⟩) 32 A∧(w3.drew.alloc (.cells #[.int .u8 77,.int .u8 3,.int .u8 1] 5)).ownsRow w3.heap.size 5 1 (.slice (some ⟨w3.heap.size,0,none⟩) 3 3) 3 (HX.z00 [77,3,1])∧
      ∀ w',(w3.drew.alloc (.cells #[.int .u8 77,.int .u8 3,.int .u8 1] 5)).grownBy w' (some w3.heap.size)→Bytes w' (some ⟨g3,0,none⟩) 32 C∧Below w3.heap.size w3 w'):=by
  have hb0:Below w3.heap.size w3 (w3.drew.alloc (.cells #[.int .u8 77,.int .u8 3,.int .u8 1] 5)):=(Below.refl _ _).drew.alloc (Nat.le_refl _) _
  refine ⟨(z7o (h1.keep hb0) iA),⟨rfl,.inr ⟨w3.heap.size,3,#[.int .u8 77,.int .u8 3,.int .u8 1],rfl,Nat.le_refl _,Has.new w3.drew _ _,by decide,by decide,rfl,rfl⟩⟩,fun w' hg=>?_⟩
  have hb':Below w3.heap.size w3 w':=hb0.grown hg hb0.size (fun k e=>by cases e;exact Nat.le_refl _)
  exact ⟨z7o (h3.keep hb') iC,hb'⟩
theorem z8I {A C:List Int} (iA:IsH A) (iC:IsH C):∀ x∈(77 :: 3 :: 1 :: (A ++ C):List Int),0≤x∧x≤255:=fun x hx=>by
  simp only [List.mem_cons,List.mem_append] at hx
  rcases hx with rfl | rfl | rfl | h | h
  · decide
  · decide
  · decide
  · exact iA.2 x h
  · exact iC.2 x h
theorem zbF:∃ A B C P Fo R:List Int,(IsH A∧IsH B∧IsH C∧IsH P∧IsH Fo∧IsH R)∧(#[.int .u8 1,.int .u8 0,.int .u8 0,.int .u8 0,.int .u8 0,.int .u8 0,.int .u8 0,.int .u8 0,.int .u8 0,.int .u8 0,.int .u8 0,.int .u8 0,.int .u8 0,.int .u8 0,.int .u8 0,.int .u8 0,.int .u8 0,.int .u8 0,.int .u8 0,.int .u8 0,.int .u8 0,.int .u8 0,.int .u8 0,.int .u8 0,.int .u8 0,.int .u8 0,.int .u8 0,.int .u8 0,.int .u8 0,.int .u8 0,.int .u8 0,.int .u8 0]=(z00 A).toArray∧#[.int .u8 2,.int .u8 0,.int .u8 0,.int .u8 0,.int .u8 0,.int .u8 0,.int .u8 0,.int .u8 0,.int .u8 0,.int .u8 0,.int .u8 0,.int .u8 0,.int .u8 0,.int .u8 0,.int .u8 0,.int .u8 0,.int .u8 0,.int .u8 0,.int .u8 0,.int .u8 0,.int .u8 0,.int .u8 0,.int .u8 0,.int .u8 0,.int .u8 0,.int .u8 0,.int .u8 0,.int .u8 0,.int .u8 0,.int .u8 0,.int .u8 0,.int .u8 0]=(z00 B).toArray∧#[.int .u8 3,.int .u8 0,.int .u8 0,.int .u8 0,.int .u8 0,.int .u8 0,.int .u8 0,.int .u8 0,.int .u8 0,.int .u8 0,.int .u8 0,.int .u8 0,.int .u8 0,.int .u8 0,.int .u8 0,.int .u8 0,.int .u8 0,.int .u8 0,.int .u8 0,.int .u8 0,.int .u8 0,.int .u8 0,.int .u8 0,.int .u8 0,.int .u8 0,.int .u8 0,.int .u8 0,.int .u8 0,.int .u8 0,.int .u8 0,.int .u8 0,.int .u8 0]=(z00 C).toArray)∧
    (z0L 32 A B=P∧z1D 32 P C=Fo∧z1v 32 3 Fo=R)∧(MEMA 32 R 3 1 B (77 :: 3 :: 1 :: (A ++ C))=0∧MEMA 32 R 3 1 A (77 :: 3 :: 1 :: (A ++ C))=80)∧CLA 32 B 3 1 2 (A ++ C)=(0,2,P ++ C):=
  ⟨HB 1,HB 2,HB 3,_,_,_,⟨zbC 1 (by decide) (by decide),zbC 2 (by decide) (by decide),zbC 3 (by decide) (by decide),z45 _ _ _,z8g _ _ _,z5i _ _ _⟩,⟨z8H 1,z8H 2,z8H 3⟩,⟨rfl,rfl,rfl⟩,⟨zeX,zgc⟩,z7n _ _ _ rfl rfl⟩
set_option maxHeartbeats 4000000 in
theorem z7p (w:World) (hT:Tabled w) (hX:HX.Tabled w) (h0:2<w.heap.size):Calls Tryz.prog 15 #[] w fun e w'=>e=.returned (.bool true)∧Below w.heap.size w w':=by
  obtain ⟨A,B,C,P,Fo,R,his,⟨hA,hB,hC⟩,hq,hm,hcl⟩:=zbF
  have HI:Aside (IsH A∧IsH B∧IsH C∧IsH P∧IsH Fo∧IsH R):=his
  have HQ:Aside (z0L 32 A B=P∧z1D 32 P C=Fo∧z1v 32 3 Fo=R):=hq
  have HM:Aside ((MEMA 32 R 3 1 B (77 :: 3 :: 1 :: (A ++ C))=0∧MEMA 32 R 3 1 A (77 :: 3 :: 1 :: (A ++ C))=80)∧CLA 32 B 3 1 2 (A ++ C)=(0,2,P ++ C)):=⟨hm,hcl⟩
  clear his hq hm hcl
  have HT:Aside (∀ W,Below w.heap.size w W→Tabled W∧HX.Tabled W∧0<W.heap.size∧2<W.heap.size):=fun W h=>by
    have hs:=h.size
    exact ⟨hT.below (by omega) h,hX.below h,by omega,by omega⟩
  clear hT hX h0
  have lA:=HI.out.1.1
  have lB:=HI.out.2.1.1
  have lC:=HI.out.2.2.1.1
  go_enter Tryz.func15,Tryz.ntmps15
  go_upto_region 1 with fail
  refine z9t _ _ _ _ _ _ _ _ _ _ _ _ _ _ _ _ _ _ _ _ _ _ _ _ _ _ _ _ _ _ _ _ _ _ _ _ _ _ _ _ _ _ _ _ _ _ _ _ _ _ _ _ _ _ _ _ _ _ _ _ _ _ _ _ _ _ _ w A B C lA lB lC hA hB hC ?_
  intro W hb h1 h2 h3 hlt
  clear hA hB hC
  dsimp only
  obtain ⟨g1,hg1⟩:∃ g,g=w.heap.size:=⟨_,rfl⟩
  obtain ⟨g2,hg2⟩:∃ g,g=w.heap.size+1:=⟨_,rfl⟩
  obtain ⟨g3,hg3⟩:∃ g,g=w.heap.size+1+1:=⟨_,rfl⟩
  rw [← hg3] at h3 ⊢
  rw [← hg2] at h2 ⊢
  rw [← hg1] at h1 ⊢
  have R1:Aside (Below w.heap.size w W∧Has W g1 (z00 A).toArray 32∧Has W g2 (z00 B).toArray 32∧Has W g3 (z00 C).toArray 32):=⟨hb,h1,h2,h3⟩
  clear hb hlt hg1 hg2 hg3
  have lP:=HI.out.2.2.2.1.1
  have lR:=HI.out.2.2.2.2.2.1
  go_wp2_with (first
    | (refine wpList_load_row rfl 32 (.tmp 1) rfl g1 rfl 32 (z00 A).toArray (0,0) _ h1 Tryz.underlying32 rfl (z08 lA) ?_)
    | (refine wpList_load_row rfl 32 (.tmp 2) rfl g2 rfl 32 (z00 B).toArray (0,0) _ h2 Tryz.underlying32 rfl (z08 lB) ?_)
    | fail)
  have cN:=z8h 32 A B HI.out.1 HI.out.2.1 W (HT.out _ R1.out.1).2.1
  rw [HQ.out.1] at cN
  refine cN.mono ?_
  rintro e w1 ⟨rfl,hb1⟩
  clear cN h1 h2 h3
  obtain ⟨W2,hW2⟩:∃ W2,w1.alloc (.cells (z00 P).toArray 32)=W2:=⟨_,rfl⟩
  have hbb:Below W.heap.size W W2:=by rw [← hW2];exact hb1.alloc hb1.size _
  obtain ⟨g4,hg4⟩:∃ g4,g4=w1.heap.size:=⟨_,rfl⟩
  have R2:Aside (Below w.heap.size w W2∧Has W2 g1 (z00 A).toArray 32∧Has W2 g2 (z00 B).toArray 32∧Has W2 g3 (z00 C).toArray 32∧Has W2 g4 (z00 P).toArray 32):=⟨R1.out.1.trans (hbb.mono R1.out.1.size),R1.out.2.1.keep hbb,R1.out.2.2.1.keep hbb,R1.out.2.2.2.keep hbb,by rw [← hW2];exact Has.at _ _ _ hg4⟩
  clear hbb hb1 R1
  go_upto_region 3 with (first
    | (refine wpList_store_row rfl 32 (.tmp 4) (.tmp 14) rfl _ _ rfl rfl 32 _ (Has.new w1 _ _) (z08 lP) (by simp [z00,lP]) (z0l P) ?_;rw [World.setRow_alloc_new])
    | fail)
  rw [hW2,← hg4]
  clear hW2 hg4
  have k1:=R2.out.2.1
  have k2:=R2.out.2.2.1
  have k3:=R2.out.2.2.2.1
  go_wp2_with (first
    | (refine wpList_load_row rfl 32 (.tmp 2) rfl g2 rfl 32 (z00 B).toArray (0,0) _ k2 Tryz.underlying32 rfl (z08 lB) ?_)
    | (refine wpList_load_row rfl 32 (.tmp 1) rfl g1 rfl 32 (z00 A).toArray (0,0) _ k1 Tryz.underlying32 rfl (z08 lA) ?_)
    | (refine wpList_load_row rfl 32 (.tmp 3) rfl g3 rfl 32 (z00 C).toArray (0,0) _ k3 Tryz.underlying32 rfl (z08 lC) ?_)
    | (refine zdf _ rfl (.tmp 17) (.tmp 18) rfl A C rfl rfl lA lC ?_)
    | fail)
  have hbl:Below W2.heap.size W2 (W2.alloc (.cells (z00 (A ++ C)).toArray 32)):=(Below.refl _ _).alloc (Nat.le_refl _) _
  have hfl:Flat (W2.alloc (.cells (z00 (A ++ C)).toArray 32)) (some ⟨W2.heap.size,0,none⟩) 2 (A ++ C):=zew (Has.new _ _ _) (by rw [List.length_append,lA,lC]) (fun x hx=>by
    rcases List.mem_append.1 hx with h | h
    · exact HI.out.1.2 x h
    · exact HI.out.2.2.1.2 x h)
  have hbw:=R2.out.1.trans (hbl.mono R2.out.1.size)
  have cC:=z8l 32 B HI.out.2.1 3 1 (some ⟨W2.heap.size,0,none⟩) 2 2 (A ++ C) _ hfl (HT.out _ hbw).1 (HT.out _ hbw).2.1 (HT.out _ hbw).2.2.2
  rw [HM.out.2] at cC
  refine cC.mono ?_
  rintro e w3 ⟨al,cl,rfl,hrow,hb3⟩
  dsimp only at *
  have hx3:Below W2.heap.size W2 w3:=hbl.trans (hb3.mono hbl.size)
  obtain ⟨gl,hal⟩:∃ gl,al=some ⟨gl,0,none⟩:=by
    obtain ⟨ad,cap,e,_,h⟩:=z2P hrow
    obtain ⟨g,e2,_⟩:=h (by decide)
    cases e
    exact ⟨g,e2⟩
  subst hal
  have R3:Aside (Below w.heap.size w w3∧Has w3 g1 (z00 A).toArray 32∧Has w3 g2 (z00 B).toArray 32∧Has w3 g3 (z00 C).toArray 32∧Has w3 g4 (z00 P).toArray 32∧w3.ownsRow W2.heap.size 32 32 (.slice (some ⟨gl,0,none⟩) 2 cl) 2 (z00 (P ++ C))):=⟨R2.out.1.trans (hx3.mono R2.out.1.size),R2.out.2.1.keep hx3,R2.out.2.2.1.keep hx3,R2.out.2.2.2.1.keep hx3,R2.out.2.2.2.2.keep hx3,z0J hrow hbl.size⟩
  clear hbl hfl hbw cC hrow hb3 hx3 k1 k2 k3 R2
  have hs32:=HX.z2y
  have T1:=zbE w3 g1 g3 A C R3.out.2.1 R3.out.2.2.2.1 HI.out.1 HI.out.2.2.1
  go_upto_region 4 with fail
  go_region_held_law (fun _=>True) (trivial) (first
    | (refine HX.z9Y _ (by rfl) (.tmp 24) (.tmp 25) (by rfl) w3.heap.size _ 3 [77,3,1] (by rfl) T1.out.2.1 g1 0 32 32 A (by rfl) T1.out.1 (by decide) (by decide) (by simp) 35 rfl ?_;intro g5 c5 w5 hown5 hgrow5 hat5 hlt5)
    | (refine HX.z9Y _ (by rfl) (.tmp 26) (.tmp 27) (by rfl) w3.heap.size _ 35 _ (by rfl) hown5 g3 0 32 32 C (by rfl) (T1.out.2.2 _ hgrow5).1 (by decide) (by decide) (T1.out.2.2 _ hgrow5).2.size 67 rfl ?_;intro g6 c6 w6 hown6 hgrow6 hat6 hlt6))
  have R4:Aside (Below w3.heap.size w3 w6∧w6.ownsRow w3.heap.size 5 1 (.slice (some ⟨g6,0,none⟩) 67 c6) 67 (z00 (77 :: 3 :: 1 :: (A ++ C)))):=by
    have hb5:=(T1.out.2.2 _ hgrow5).2
    refine ⟨hb5.grown hgrow6 hb5.size (fun k e=>(hown5.lt k e).1),?_⟩
    have e:[77,3,1] ++ A ++ C=77 :: 3 :: 1 :: (A ++ C):=by simp
    rw [e] at hown6
    exact hown6
  clear hown5 hgrow5 hat5 hlt5 hown6 hgrow6 hat6 hlt6 T1 hs32
  have R5:Aside (Below w.heap.size w w6∧Has w6 g1 (z00 A).toArray 32∧Has w6 g2 (z00 B).toArray 32∧Has w6 g3 (z00 C).toArray 32∧Has w6 g4 (z00 P).toArray 32∧w6.ownsRow W2.heap.size 32 32 (.slice (some ⟨gl,0,none⟩) 2 cl) 2 (z00 (P ++ C))∧w6.ownsRow w3.heap.size 5 1 (.slice (some ⟨g6,0,none⟩) 67 c6) 67 (z00 (77 :: 3 :: 1 :: (A ++ C)))):=by
    obtain ⟨r1,r2,r3,r4,r5,r6⟩:=R3.out
    have hb:=R4.out.1
    exact ⟨r1.trans (hb.mono r1.size),r2.keep hb,r3.keep hb,r4.keep hb,r5.keep hb,z0c r6 hb,R4.out.2⟩
  clear R3 R4
  have k3:=R5.out.2.2.2.1
  have k4:=R5.out.2.2.2.2.1
  go_simp
  go_wp2_with (first
    | (refine wpList_load_row rfl 32 (.tmp 4) rfl g4 rfl 32 (z00 P).toArray (0,0) _ k4 Tryz.underlying32 rfl (z08 lP) ?_)
    | (refine wpList_load_row rfl 32 (.tmp 3) rfl g3 rfl 32 (z00 C).toArray (0,0) _ k3 Tryz.underlying32 rfl (z08 lC) ?_)
    | fail)
  have cF:=z8i 32 P C HI.out.2.2.2.1 HI.out.2.2.1 w6 (HT.out _ R5.out.1).2.1
  rw [HQ.out.2.1] at cF
  refine cF.mono ?_
  rintro e w7 ⟨rfl,hb7⟩
  clear cF k3 k4
  have hb7':=R5.out.1.trans (hb7.mono R5.out.1.size)
  have cR:=z8j 32 3 (by decide) Fo HI.out.2.2.2.2.1 w7 (HT.out _ hb7').2.1
  rw [HQ.out.2.2] at cR
  go_wp2_with fail
  refine cR.mono ?_
  rintro e w8 ⟨rfl,hb8⟩
  clear cR hb7'
  obtain ⟨W8,hW8⟩:∃ W8,w8.alloc (.cells (z00 R).toArray 32)=W8:=⟨_,rfl⟩
  have hbb:Below w6.heap.size w6 W8:=by rw [← hW8];have h:=hb7.trans (hb8.mono hb7.size);exact h.alloc h.size _
  obtain ⟨g8,hg8⟩:∃ g8,g8=w8.heap.size:=⟨_,rfl⟩
  have R6:Aside (Below w.heap.size w W8∧Has W8 g1 (z00 A).toArray 32∧Has W8 g2 (z00 B).toArray 32∧Has W8 g3 (z00 C).toArray 32∧Has W8 g4 (z00 P).toArray 32∧W8.ownsRow W2.heap.size 32 32 (.slice (some ⟨gl,0,none⟩) 2 cl) 2 (z00 (P ++ C))∧W8.ownsRow w3.heap.size 5 1 (.slice (some ⟨g6,0,none⟩) 67 c6) 67 (z00 (77 :: 3 :: 1 :: (A ++ C)))∧Has W8 g8 (z00 R).toArray 32):=by
    obtain ⟨r1,r2,r3,r4,r5,r6,r7⟩:=R5.out
    exact ⟨r1.trans (hbb.mono r1.size),r2.keep hbb,r3.keep hbb,r4.keep hbb,r5.keep hbb,z0c r6 hbb,z0c r7 hbb,by rw [← hW8];exact Has.at _ _ _ hg8⟩
  clear hbb hb7 hb8 R5
  go_upto_region 6 with (first
    | (refine wpList_store_row rfl 32 (.tmp 8) (.tmp 32) rfl _ _ rfl rfl 32 _ (Has.new w8 _ _) (z08 lR) (by simp [z00,lR]) (z0l R) ?_;rw [World.setRow_alloc_new])
    | fail)
  rw [hW8,← hg8]
  clear hW8 hg8
  refine z8G _ _ _ _ _ _ _ _ _ _ _ _ _ _ _ _ _ _ _ _ _ _ _ _ _ _ _ _ _ _ _ _ _ _ _ _ _ _ _ _ _ _ _ _ _ _ _ _ _ _ _ _ _ _ _ _ _ _ _ W8 g1 g2 g3 g4 g8 gl cl g6 c6 A B C P R lA lB lC lP lR (fun W'=>Below W8.heap.size W8 W') (Below.refl _ _).drew (fun W' hW'=>?_) (fun W'=>?_) (fun W'=>?_) (fun W' hW'=>?_) (fun W' hW'=>?_) (fun _ _ _ _ _ h=>h) ?_
  · obtain ⟨r1,r2,r3,r4,r5,r6,r7,r8⟩:=R6.out
    have ho:=z0c r6 hW'
    refine ⟨?_,?_,z0P (r5.keep hW'),z0P (r4.keep hW'),z0P (r8.keep hW'),z0P (r3.keep hW'),z0P (r2.keep hW')⟩
    · intro j v hv
      have hj:j<32:=by have:=(List.getElem?_eq_some_iff.1 hv).1;simpa [z00,lP] using this
      rw [Nat.zero_add,ho.cellAt j (by omega),z0y,List.getElem?_append_left (by simp [z00,lP];exact hj)]
      exact hv
    · intro j v hv
      have hj:j<32:=by have:=(List.getElem?_eq_some_iff.1 hv).1;simpa [z00,lC] using this
      rw [ho.cellAt (32+j) (by omega),z0y,List.getElem?_append_right (by simp [z00,lP])]
      simpa [z00,lP] using hv
  · rw [z35 lP lP,decide_eq_true rfl]
  · rw [z35 lC lC,decide_eq_true rfl]
  · have hbw:=R6.out.1.trans (hW'.mono R6.out.1.size)
    have hT:=HT.out _ hbw
    have ho:=z0c R6.out.2.2.2.2.2.2.1 hW'
    obtain ⟨a',c',e,hB',hc'⟩:=zcG ho (z8I HI.out.1 HI.out.2.2.1)
    cases e
    refine (z7d 32 R HI.out.2.2.2.2.2 3 1 (by decide) B HI.out.2.1 (some ⟨g6,0,none⟩) 67 c6 (by decide) hc' _ W' hB' hT.1 hT.2.1 hT.2.2.2).mono ?_
    rintro e w9 ⟨rfl,hb9⟩
    exact ⟨by rw [HM.out.1.1],hW'.trans (hb9.mono hW'.size)⟩
  · have hbw:=R6.out.1.trans (hW'.mono R6.out.1.size)
    have hT:=HT.out _ hbw
    have ho:=z0c R6.out.2.2.2.2.2.2.1 hW'
    obtain ⟨a',c',e,hB',hc'⟩:=zcG ho (z8I HI.out.1 HI.out.2.2.1)
    cases e
    refine (z7d 32 R HI.out.2.2.2.2.2 3 1 (by decide) A HI.out.1 (some ⟨g6,0,none⟩) 67 c6 (by decide) hc' _ W' hB' hT.1 hT.2.1 hT.2.2.2).mono ?_
    rintro e w9 ⟨rfl,hb9⟩
    exact ⟨by rw [HM.out.1.2],hW'.trans (hb9.mono hW'.size)⟩
  · intro W' hW'
    have Z:Aside (Below w.heap.size w W'):=R6.out.1.trans (hW'.mono R6.out.1.size)
    clear hW' R6 HI HQ HM HT
    go_wp2
    go_ret
    exact ⟨rfl,Z.out⟩
end Go.Proofs.YthjeeblddipiiaaGreatDoor

namespace Go.Proofs.YthjeeblddipiiaaGreatDoor
open Go.RowKit
set_option maxRecDepth 100000
end Go.Proofs.YthjeeblddipiiaaGreatDoor
