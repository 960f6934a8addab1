/- Texts of CarryEvents, one behind the other: CarryAwakeStart, CarryAwake, CarryRoundWalk, ProofMarked. -/
import Derived.Test.YtkpgbhokoohimaaDoorCarryEventsP8
import Derived.Test.YtkpgbhokoohimaaDoorCarryEventsP27
import Derived.Test.YtkpgbhokoohimaaDoorCarryEventsP28
/- The first region of massiflaw12's awake. -/
namespace Go.Proofs.YtkpgbhokoohimaaDoor
open Go.RowKit
set_option maxRecDepth 100000

theorem wpList_rungc {ops : Array Oper} {rest : List Oper} {o : Oper} {a : Act} {w w' : World} {Q : Exit → Act → World → Prop} {v : Value} (hw : Region.wanted o (yielded ops a.tmps) = true) (hrun : (execOp a.eval o).run Tryd.prog w = .ok (.value v) w')
    (h : wpList Tryd.prog ops Q rest (a.put o.dst v) w') : wpList Tryd.prog ops Q (o :: rest) a w :=
  wpList_step fun K hK => by
    rw [if_pos hw]
    unfold Oper.wp
    rw [hrun]
    exact hK _ _ h
theorem wpList_finc {ops : Array Oper} {a : Act} {w : World} {Q : Exit → Act → World → Prop} (h : Q .normal a w) : wpList Tryd.prog ops Q [] a w := h
theorem below_setrowc {B g : Nat} {w0 w : World} (hb : Below B w0 w) (hBg : B ≤ g) (cs : Array Value) : Below B w0 (w.setRow g cs) :=
  ⟨hb.os,hb.tape,hb.output,by have := hb.size; simpa [World.setRow] using this,fun k hk => by rw [setRow_other w g k cs (by omega)]; exact hb.block k hk⟩
def CXOPS : List Oper := [{ dst := some 10,op := Op.build 24 #[(0,Operand.const (Value.int IntKind.u8 1))],type := 24,pos := "help.go:16",after := #[],guard := none },{ dst := some 11,op := Op.build 24 #[(0,Operand.const (Value.int IntKind.u8 2))],type := 24,pos := "help.go:16",after := #[{ on := 6,ground := Ground.gcOnly Departure.lateStores }],guard := none },{ dst := some 12,op := Op.build 24 #[(0,Operand.const (Value.int IntKind.u8 3))],type := 24,pos := "help.go:16",after := #[{ on := 7,ground := Ground.gcOnly Departure.lateStores }],guard := none },{ dst := some 1,op := Op.alloc 24,type := 0,pos := "help.go:16",after := #[],guard := none },{ dst := some 2,op := Op.alloc 24,type := 0,pos := "help.go:16",after := #[],guard := none },{ dst := some 3,op := Op.alloc 24,type := 0,pos := "help.go:16",after := #[],guard := none },{ dst := none,op := Op.store 24 (Operand.tmp 1) (Operand.tmp 10),type := 0,pos := "help.go:16",after := #[{ on := 3,ground := Ground.data },{ on := 0,ground := Ground.data },{ on := 0,ground := Ground.phase },{ on := 1,ground := Ground.textOnly Departure.lateStores },{ on := 2,ground := Ground.textOnly Departure.lateStores },{ on := 3,ground := Ground.phase },{ on := 4,ground := Ground.phase },{ on := 5,ground := Ground.phase }],guard := none },{ dst := none,op := Op.store 24 (Operand.tmp 2) (Operand.tmp 11),type := 0,pos := "help.go:16",after := #[{ on := 4,ground := Ground.data },{ on := 1,ground := Ground.data },{ on := 6,ground := Ground.chain },{ on := 0,ground := Ground.phase },{ on := 1,ground := Ground.phase },{ on := 2,ground := Ground.textOnly Departure.lateStores },{ on := 3,ground := Ground.phase },{ on := 4,ground := Ground.phase },{ on := 5,ground := Ground.phase },{ on := 6,ground := Ground.phase }],guard := none },{ dst := none,op := Op.store 24 (Operand.tmp 3) (Operand.tmp 12),type := 0,pos := "help.go:16",after := #[{ on := 5,ground := Ground.data },{ on := 2,ground := Ground.data },{ on := 7,ground := Ground.chain },{ on := 0,ground := Ground.phase },{ on := 1,ground := Ground.phase },{ on := 2,ground := Ground.phase },{ on := 3,ground := Ground.phase },{ on := 4,ground := Ground.phase },{ on := 5,ground := Ground.phase },{ on := 6,ground := Ground.phase },{ on := 7,ground := Ground.phase }],guard := none }]
set_option maxHeartbeats 2000000 in
theorem cawake_start {Q : Exit → Act → World → Prop} (u1 u2 u3 u4 u5 u6 u7 u8 u9 u10 u11 u12 u13 u14 u15 u16 u17 u18 u19 u20 u21 u22 u23 u24 u25 u26 u27 u28 u29 u30 u31 u32 u33 u34 u35 u36 u37 u38 u39 u40 u41 u42 u43 u44 u45 u46 u47 u48 u49 u50 u51 u52 u53 u54 u55 u56 u57 u58 u59 u60 u61 u62 u63 u64 u65 u66 u67 u68 u69 u70 u71 u72 u73 u74 u75 u76 u77 u78 u79 u80 u81 u82 u83 u84 u85 u86 u87 u88 u89 u90 u91 : Value) (w : World) (A B C : List Int) (lA : A.length = 32) (lB : B.length = 32) (lC : C.length = 32) (hA : #[.int .u8 1,.int .u8 0,.int .u8 0,.int .u8 0,.int .u8 0,.int .u8 0,.int .u8 0,.int .u8 0,.int .u8 0,.int .u8 0,.int .u8 0,.int .u8 0,.int .u8 0,.int .u8 0,.int .u8 0,.int .u8 0,.int .u8 0,.int .u8 0,.int .u8 0,.int .u8 0,.int .u8 0,.int .u8 0,.int .u8 0,.int .u8 0,.int .u8 0,.int .u8 0,.int .u8 0,.int .u8 0,.int .u8 0,.int .u8 0,.int .u8 0,.int .u8 0] = (CELLS A).toArray) (hB : #[.int .u8 2,.int .u8 0,.int .u8 0,.int .u8 0,.int .u8 0,.int .u8 0,.int .u8 0,.int .u8 0,.int .u8 0,.int .u8 0,.int .u8 0,.int .u8 0,.int .u8 0,.int .u8 0,.int .u8 0,.int .u8 0,.int .u8 0,.int .u8 0,.int .u8 0,.int .u8 0,.int .u8 0,.int .u8 0,.int .u8 0,.int .u8 0,.int .u8 0,.int .u8 0,.int .u8 0,.int .u8 0,.int .u8 0,.int .u8 0,.int .u8 0,.int .u8 0] = (CELLS B).toArray) (hC : #[.int .u8 3,.int .u8 0,.int .u8 0,.int .u8 0,.int .u8 0,.int .u8 0,.int .u8 0,.int .u8 0,.int .u8 0,.int .u8 0,.int .u8 0,.int .u8 0,.int .u8 0,.int .u8 0,.int .u8 0,.int .u8 0,.int .u8 0,.int .u8 0,.int .u8 0,.int .u8 0,.int .u8 0,.int .u8 0,.int .u8 0,.int .u8 0,.int .u8 0,.int .u8 0,.int .u8 0,.int .u8 0,.int .u8 0,.int .u8 0,.int .u8 0,.int .u8 0] = (CELLS C).toArray)
    (h : ∀ W,Below w.heap.size w W → Has W w.heap.size (CELLS A).toArray 24 → Has W (w.heap.size + 1) (CELLS B).toArray 24 → Has W (w.heap.size + 1 + 1) (CELLS C).toArray 24 → w.heap.size + 1 + 1 < W.heap.size → Q .normal { tmps := #[.bool false,.pointer (some ⟨w.heap.size,0,none⟩),.pointer (some ⟨(w.heap.size + 1),0,none⟩),.pointer (some ⟨(w.heap.size + 1 + 1),0,none⟩),u4,u5,u6,u7,u8,u9,.agg (CELLS A).toArray,.agg (CELLS B).toArray,.agg (CELLS C).toArray,u13,u14,u15,u16,u17,u18,u19,u20,u21,u22,u23,u24,u25,u26,u27,u28,u29,u30,u31,u32,u33,u34,u35,u36,u37,u38,u39,u40,u41,u42,u43,u44,u45,u46,u47,u48,u49,u50,u51,u52,u53,u54,u55,u56,u57,u58,u59,u60,u61,u62,u63,u64,u65,u66,u67,u68,u69,u70,u71,u72,u73,u74,u75,u76,u77,u78,u79,u80,u81,u82,u83,u84,u85,u86,u87,u88,u89,u90,u91],defers := [] } W) : (Code.region 1 CXOPS.toArray false).wp Tryd.prog Q { tmps := #[.bool false,u1,u2,u3,u4,u5,u6,u7,u8,u9,u10,u11,u12,u13,u14,u15,u16,u17,u18,u19,u20,u21,u22,u23,u24,u25,u26,u27,u28,u29,u30,u31,u32,u33,u34,u35,u36,u37,u38,u39,u40,u41,u42,u43,u44,u45,u46,u47,u48,u49,u50,u51,u52,u53,u54,u55,u56,u57,u58,u59,u60,u61,u62,u63,u64,u65,u66,u67,u68,u69,u70,u71,u72,u73,u74,u75,u76,u77,u78,u79,u80,u81,u82,u83,u84,u85,u86,u87,u88,u89,u90,u91],defers := [] } w := by
  have n1 : Has (((w.alloc (.cells ZARR 24)).alloc (.cells ZARR 24)).alloc (.cells ZARR 24)) w.heap.size ZARR 24 := ((Has.new w _ _).alloc _).alloc _
  have n2 : Has (((w.alloc (.cells ZARR 24)).alloc (.cells ZARR 24)).alloc (.cells ZARR 24)) (w.heap.size + 1) ZARR 24 := (Has.at _ _ _ (by simp)).alloc _
  have n3 : Has (((w.alloc (.cells ZARR 24)).alloc (.cells ZARR 24)).alloc (.cells ZARR 24)) (w.heap.size + 1 + 1) ZARR 24 := Has.at _ _ _ (by simp)
  have nb : Below w.heap.size w (((w.alloc (.cells ZARR 24)).alloc (.cells ZARR 24)).alloc (.cells ZARR 24)) := (((Below.refl _ _).alloc (Nat.le_refl _) _).alloc (by simp) _).alloc (by simp; omega) _
  have s32 : ∀ {X : List Int},X.length = 32 → ZARR.size = (CELLS X).toArray.size := fun {X} h => by
    have e : (CELLS X).toArray.size = 32 := by simp [CELLS,h]
    rw [e]
    rfl
  have f1 := n1.row (CELLS A).toArray
  have f2 := (n2.row_other (k := w.heap.size) (by omega) (CELLS A).toArray)
  have f3 := (n3.row_other (k := w.heap.size) (by omega) (CELLS A).toArray)
  have nb1 : Below w.heap.size w ((((w.alloc (.cells ZARR 24)).alloc (.cells ZARR 24)).alloc (.cells ZARR 24)).setRow w.heap.size (CELLS A).toArray) := below_setrowc nb (Nat.le_refl _) _
  have nb2 : Below w.heap.size w (((((w.alloc (.cells ZARR 24)).alloc (.cells ZARR 24)).alloc (.cells ZARR 24)).setRow w.heap.size (CELLS A).toArray).setRow (w.heap.size + 1) (CELLS B).toArray) := below_setrowc nb1 (by omega) _
  have nb3 : Below w.heap.size w ((((((w.alloc (.cells ZARR 24)).alloc (.cells ZARR 24)).alloc (.cells ZARR 24)).setRow w.heap.size (CELLS A).toArray).setRow (w.heap.size + 1) (CELLS B).toArray).setRow (w.heap.size + 1 + 1) (CELLS C).toArray) := below_setrowc nb2 (by omega) _
  have e3 := h ((((((w.alloc (.cells ZARR 24)).alloc (.cells ZARR 24)).alloc (.cells ZARR 24)).setRow w.heap.size (CELLS A).toArray).setRow (w.heap.size + 1) (CELLS B).toArray).setRow (w.heap.size + 1 + 1) (CELLS C).toArray) nb3 ((f1.row_other (by omega) _).row_other (by omega) _) ((f2.row _).row_other (by omega) _) ((f3.row_other (by omega) _).row _) ((f3.row_other (by omega) _).row _).lt
  have hE : wpList Tryd.prog CXOPS.toArray Q [] { tmps := #[.bool false,.pointer (some ⟨w.heap.size,0,none⟩),.pointer (some ⟨(w.heap.size + 1),0,none⟩),.pointer (some ⟨(w.heap.size + 1 + 1),0,none⟩),u4,u5,u6,u7,u8,u9,.agg (CELLS A).toArray,.agg (CELLS B).toArray,.agg (CELLS C).toArray,u13,u14,u15,u16,u17,u18,u19,u20,u21,u22,u23,u24,u25,u26,u27,u28,u29,u30,u31,u32,u33,u34,u35,u36,u37,u38,u39,u40,u41,u42,u43,u44,u45,u46,u47,u48,u49,u50,u51,u52,u53,u54,u55,u56,u57,u58,u59,u60,u61,u62,u63,u64,u65,u66,u67,u68,u69,u70,u71,u72,u73,u74,u75,u76,u77,u78,u79,u80,u81,u82,u83,u84,u85,u86,u87,u88,u89,u90,u91],defers := [] } ((((((w.alloc (.cells ZARR 24)).alloc (.cells ZARR 24)).alloc (.cells ZARR 24)).setRow w.heap.size (CELLS A).toArray).setRow (w.heap.size + 1) (CELLS B).toArray).setRow (w.heap.size + 1 + 1) (CELLS C).toArray) := wpList_finc e3
  have t8 : wpList Tryd.prog CXOPS.toArray Q (CXOPS.drop 8) { tmps := #[.bool false,.pointer (some ⟨w.heap.size,0,none⟩),.pointer (some ⟨(w.heap.size + 1),0,none⟩),.pointer (some ⟨(w.heap.size + 1 + 1),0,none⟩),u4,u5,u6,u7,u8,u9,.agg (CELLS A).toArray,.agg (CELLS B).toArray,.agg (CELLS C).toArray,u13,u14,u15,u16,u17,u18,u19,u20,u21,u22,u23,u24,u25,u26,u27,u28,u29,u30,u31,u32,u33,u34,u35,u36,u37,u38,u39,u40,u41,u42,u43,u44,u45,u46,u47,u48,u49,u50,u51,u52,u53,u54,u55,u56,u57,u58,u59,u60,u61,u62,u63,u64,u65,u66,u67,u68,u69,u70,u71,u72,u73,u74,u75,u76,u77,u78,u79,u80,u81,u82,u83,u84,u85,u86,u87,u88,u89,u90,u91],defers := [] } (((((w.alloc (.cells ZARR 24)).alloc (.cells ZARR 24)).alloc (.cells ZARR 24)).setRow w.heap.size (CELLS A).toArray).setRow (w.heap.size + 1) (CELLS B).toArray) := wpList_store_row rfl 24 (.tmp 3) (.tmp 12) rfl (w.heap.size + 1 + 1) _ rfl rfl 24 ZARR (f3.row_other (by omega) _) (info_arr lC) (s32 lC) (cells_one C) hE
  have t7 : wpList Tryd.prog CXOPS.toArray Q (CXOPS.drop 7) { tmps := #[.bool false,.pointer (some ⟨w.heap.size,0,none⟩),.pointer (some ⟨(w.heap.size + 1),0,none⟩),.pointer (some ⟨(w.heap.size + 1 + 1),0,none⟩),u4,u5,u6,u7,u8,u9,.agg (CELLS A).toArray,.agg (CELLS B).toArray,.agg (CELLS C).toArray,u13,u14,u15,u16,u17,u18,u19,u20,u21,u22,u23,u24,u25,u26,u27,u28,u29,u30,u31,u32,u33,u34,u35,u36,u37,u38,u39,u40,u41,u42,u43,u44,u45,u46,u47,u48,u49,u50,u51,u52,u53,u54,u55,u56,u57,u58,u59,u60,u61,u62,u63,u64,u65,u66,u67,u68,u69,u70,u71,u72,u73,u74,u75,u76,u77,u78,u79,u80,u81,u82,u83,u84,u85,u86,u87,u88,u89,u90,u91],defers := [] } ((((w.alloc (.cells ZARR 24)).alloc (.cells ZARR 24)).alloc (.cells ZARR 24)).setRow w.heap.size (CELLS A).toArray) := wpList_store_row rfl 24 (.tmp 2) (.tmp 11) rfl (w.heap.size + 1) _ rfl rfl 24 ZARR f2 (info_arr lB) (s32 lB) (cells_one B) t8
  have t6 : wpList Tryd.prog CXOPS.toArray Q (CXOPS.drop 6) { tmps := #[.bool false,.pointer (some ⟨w.heap.size,0,none⟩),.pointer (some ⟨(w.heap.size + 1),0,none⟩),.pointer (some ⟨(w.heap.size + 1 + 1),0,none⟩),u4,u5,u6,u7,u8,u9,.agg (CELLS A).toArray,.agg (CELLS B).toArray,.agg (CELLS C).toArray,u13,u14,u15,u16,u17,u18,u19,u20,u21,u22,u23,u24,u25,u26,u27,u28,u29,u30,u31,u32,u33,u34,u35,u36,u37,u38,u39,u40,u41,u42,u43,u44,u45,u46,u47,u48,u49,u50,u51,u52,u53,u54,u55,u56,u57,u58,u59,u60,u61,u62,u63,u64,u65,u66,u67,u68,u69,u70,u71,u72,u73,u74,u75,u76,u77,u78,u79,u80,u81,u82,u83,u84,u85,u86,u87,u88,u89,u90,u91],defers := [] } (((w.alloc (.cells ZARR 24)).alloc (.cells ZARR 24)).alloc (.cells ZARR 24)) := wpList_store_row rfl 24 (.tmp 1) (.tmp 10) rfl w.heap.size _ rfl rfl 24 ZARR n1 (info_arr lA) (s32 lA) (cells_one A) t7
  have t5 : wpList Tryd.prog CXOPS.toArray Q (CXOPS.drop 5) { tmps := #[.bool false,.pointer (some ⟨w.heap.size,0,none⟩),.pointer (some ⟨(w.heap.size + 1),0,none⟩),u3,u4,u5,u6,u7,u8,u9,.agg (CELLS A).toArray,.agg (CELLS B).toArray,.agg (CELLS C).toArray,u13,u14,u15,u16,u17,u18,u19,u20,u21,u22,u23,u24,u25,u26,u27,u28,u29,u30,u31,u32,u33,u34,u35,u36,u37,u38,u39,u40,u41,u42,u43,u44,u45,u46,u47,u48,u49,u50,u51,u52,u53,u54,u55,u56,u57,u58,u59,u60,u61,u62,u63,u64,u65,u66,u67,u68,u69,u70,u71,u72,u73,u74,u75,u76,u77,u78,u79,u80,u81,u82,u83,u84,u85,u86,u87,u88,u89,u90,u91],defers := [] } ((w.alloc (.cells ZARR 24)).alloc (.cells ZARR 24)) := wpList_rungc (v := .pointer (some ⟨(w.heap.size + 1 + 1),0,none⟩)) (w' := (((w.alloc (.cells ZARR 24)).alloc (.cells ZARR 24)).alloc (.cells ZARR 24))) rfl (by first | rfl | (go_simp; rfl) | go_simp) t6
  have t4 : wpList Tryd.prog CXOPS.toArray Q (CXOPS.drop 4) { tmps := #[.bool false,.pointer (some ⟨w.heap.size,0,none⟩),u2,u3,u4,u5,u6,u7,u8,u9,.agg (CELLS A).toArray,.agg (CELLS B).toArray,.agg (CELLS C).toArray,u13,u14,u15,u16,u17,u18,u19,u20,u21,u22,u23,u24,u25,u26,u27,u28,u29,u30,u31,u32,u33,u34,u35,u36,u37,u38,u39,u40,u41,u42,u43,u44,u45,u46,u47,u48,u49,u50,u51,u52,u53,u54,u55,u56,u57,u58,u59,u60,u61,u62,u63,u64,u65,u66,u67,u68,u69,u70,u71,u72,u73,u74,u75,u76,u77,u78,u79,u80,u81,u82,u83,u84,u85,u86,u87,u88,u89,u90,u91],defers := [] } (w.alloc (.cells ZARR 24)) := wpList_rungc (v := .pointer (some ⟨(w.heap.size + 1),0,none⟩)) (w' := ((w.alloc (.cells ZARR 24)).alloc (.cells ZARR 24))) rfl (by first | rfl | (go_simp; rfl) | go_simp) t5
  have t3 : wpList Tryd.prog CXOPS.toArray Q (CXOPS.drop 3) { tmps := #[.bool false,u1,u2,u3,u4,u5,u6,u7,u8,u9,.agg (CELLS A).toArray,.agg (CELLS B).toArray,.agg (CELLS C).toArray,u13,u14,u15,u16,u17,u18,u19,u20,u21,u22,u23,u24,u25,u26,u27,u28,u29,u30,u31,u32,u33,u34,u35,u36,u37,u38,u39,u40,u41,u42,u43,u44,u45,u46,u47,u48,u49,u50,u51,u52,u53,u54,u55,u56,u57,u58,u59,u60,u61,u62,u63,u64,u65,u66,u67,u68,u69,u70,u71,u72,u73,u74,u75,u76,u77,u78,u79,u80,u81,u82,u83,u84,u85,u86,u87,u88,u89,u90,u91],defers := [] } w := wpList_rungc (v := .pointer (some ⟨w.heap.size,0,none⟩)) (w' := (w.alloc (.cells ZARR 24))) rfl (by first | rfl | (go_simp; rfl) | go_simp) t4
  have t2 : wpList Tryd.prog CXOPS.toArray Q (CXOPS.drop 2) { tmps := #[.bool false,u1,u2,u3,u4,u5,u6,u7,u8,u9,.agg (CELLS A).toArray,.agg (CELLS B).toArray,u12,u13,u14,u15,u16,u17,u18,u19,u20,u21,u22,u23,u24,u25,u26,u27,u28,u29,u30,u31,u32,u33,u34,u35,u36,u37,u38,u39,u40,u41,u42,u43,u44,u45,u46,u47,u48,u49,u50,u51,u52,u53,u54,u55,u56,u57,u58,u59,u60,u61,u62,u63,u64,u65,u66,u67,u68,u69,u70,u71,u72,u73,u74,u75,u76,u77,u78,u79,u80,u81,u82,u83,u84,u85,u86,u87,u88,u89,u90,u91],defers := [] } w := wpList_rungc (v := .agg (CELLS C).toArray) (w' := w) rfl (by rw [← hC]; first | rfl | kernel_rfl | go_simp) t3
  have t1 : wpList Tryd.prog CXOPS.toArray Q (CXOPS.drop 1) { tmps := #[.bool false,u1,u2,u3,u4,u5,u6,u7,u8,u9,.agg (CELLS A).toArray,u11,u12,u13,u14,u15,u16,u17,u18,u19,u20,u21,u22,u23,u24,u25,u26,u27,u28,u29,u30,u31,u32,u33,u34,u35,u36,u37,u38,u39,u40,u41,u42,u43,u44,u45,u46,u47,u48,u49,u50,u51,u52,u53,u54,u55,u56,u57,u58,u59,u60,u61,u62,u63,u64,u65,u66,u67,u68,u69,u70,u71,u72,u73,u74,u75,u76,u77,u78,u79,u80,u81,u82,u83,u84,u85,u86,u87,u88,u89,u90,u91],defers := [] } w := wpList_rungc (v := .agg (CELLS B).toArray) (w' := w) rfl (by rw [← hB]; first | rfl | kernel_rfl | go_simp) t2
  have t0 : wpList Tryd.prog CXOPS.toArray Q (CXOPS.drop 0) { tmps := #[.bool false,u1,u2,u3,u4,u5,u6,u7,u8,u9,u10,u11,u12,u13,u14,u15,u16,u17,u18,u19,u20,u21,u22,u23,u24,u25,u26,u27,u28,u29,u30,u31,u32,u33,u34,u35,u36,u37,u38,u39,u40,u41,u42,u43,u44,u45,u46,u47,u48,u49,u50,u51,u52,u53,u54,u55,u56,u57,u58,u59,u60,u61,u62,u63,u64,u65,u66,u67,u68,u69,u70,u71,u72,u73,u74,u75,u76,u77,u78,u79,u80,u81,u82,u83,u84,u85,u86,u87,u88,u89,u90,u91],defers := [] } w := wpList_rungc (v := .agg (CELLS A).toArray) (w' := w) rfl (by rw [← hA]; first | rfl | kernel_rfl | go_simp) t1
  exact wp_region_lit t0
end Go.Proofs.YtkpgbhokoohimaaDoor

/- massiflaw12's awake answers true. -/
namespace Go.Proofs.YtkpgbhokoohimaaDoor
open Go.RowKit
set_option maxRecDepth 100000

/-- the hash whose first byte is m, and nothing else. -/
def HBC (m : Int) : List Int := m :: List.replicate 31 0
theorem HBC_is (m : Int) (h0 : 0 ≤ m) (h1 : m ≤ 255) : IsH (HBC m) := ⟨rfl,fun x hx => by
  rcases List.mem_cons.1 hx with rfl | hx
  · exact ⟨h0,h1⟩
  · rw [List.eq_of_mem_replicate hx]
    decide⟩
theorem HBC_arr (m : Int) : #[.int .u8 m,.int .u8 0,.int .u8 0,.int .u8 0,.int .u8 0,.int .u8 0,.int .u8 0,.int .u8 0,.int .u8 0,.int .u8 0,.int .u8 0,.int .u8 0,.int .u8 0,.int .u8 0,.int .u8 0,.int .u8 0,.int .u8 0,.int .u8 0,.int .u8 0,.int .u8 0,.int .u8 0,.int .u8 0,.int .u8 0,.int .u8 0,.int .u8 0,.int .u8 0,.int .u8 0,.int .u8 0,.int .u8 0,.int .u8 0,.int .u8 0,.int .u8 0] = (CELLS (HBC m)).toArray := rfl
theorem cawake_data : ∃ A B C : List Int,(IsH A ∧ IsH B ∧ IsH C) ∧ #[.int .u8 1,.int .u8 0,.int .u8 0,.int .u8 0,.int .u8 0,.int .u8 0,.int .u8 0,.int .u8 0,.int .u8 0,.int .u8 0,.int .u8 0,.int .u8 0,.int .u8 0,.int .u8 0,.int .u8 0,.int .u8 0,.int .u8 0,.int .u8 0,.int .u8 0,.int .u8 0,.int .u8 0,.int .u8 0,.int .u8 0,.int .u8 0,.int .u8 0,.int .u8 0,.int .u8 0,.int .u8 0,.int .u8 0,.int .u8 0,.int .u8 0,.int .u8 0] = (CELLS A).toArray ∧ #[.int .u8 2,.int .u8 0,.int .u8 0,.int .u8 0,.int .u8 0,.int .u8 0,.int .u8 0,.int .u8 0,.int .u8 0,.int .u8 0,.int .u8 0,.int .u8 0,.int .u8 0,.int .u8 0,.int .u8 0,.int .u8 0,.int .u8 0,.int .u8 0,.int .u8 0,.int .u8 0,.int .u8 0,.int .u8 0,.int .u8 0,.int .u8 0,.int .u8 0,.int .u8 0,.int .u8 0,.int .u8 0,.int .u8 0,.int .u8 0,.int .u8 0,.int .u8 0] = (CELLS B).toArray ∧ #[.int .u8 3,.int .u8 0,.int .u8 0,.int .u8 0,.int .u8 0,.int .u8 0,.int .u8 0,.int .u8 0,.int .u8 0,.int .u8 0,.int .u8 0,.int .u8 0,.int .u8 0,.int .u8 0,.int .u8 0,.int .u8 0,.int .u8 0,.int .u8 0,.int .u8 0,.int .u8 0,.int .u8 0,.int .u8 0,.int .u8 0,.int .u8 0,.int .u8 0,.int .u8 0,.int .u8 0,.int .u8 0,.int .u8 0,.int .u8 0,.int .u8 0,.int .u8 0] = (CELLS C).toArray :=
  ⟨HBC 1,HBC 2,HBC 3,⟨HBC_is 1 (by decide) (by decide),HBC_is 2 (by decide) (by decide),HBC_is 3 (by decide) (by decide)⟩,HBC_arr 1,HBC_arr 2,HBC_arr 3⟩
theorem same_hash {X : List Int} (lX : X.length = 32) (w : World) : (Op.equalIn 10000 24 (.agg (CELLS X).toArray) (.agg (CELLS X).toArray)).run Tryd.prog w = .ok true w := by
  rw [equal_cells X X lX lX w]
  simp
set_option maxHeartbeats 8000000 in
theorem awake12_ok (w : World) (hT : Tabled w) (hX : HX.Tabled w) (h0 : 2 < w.heap.size) : Calls Tryd.prog 16 #[] w fun e w' => e = .returned (.bool true) ∧ Below w.heap.size w w' := by
  obtain ⟨A,B,C,his,hA,hB,hC⟩ := cawake_data
  have HI : Aside (IsH A ∧ IsH B ∧ IsH C ∧ IsH (NODEH 32 A B)) := ⟨his.1,his.2.1,his.2.2,NODEH_is _ _ _⟩
  clear his
  have HT : Aside (∀ W,Below w.heap.size w W → Tabled W ∧ HX.Tabled W ∧ 2 < W.heap.size) := fun W h => by
    have hs := h.size
    exact ⟨hT.below (by omega) h,hX.below h,by omega⟩
  clear hT hX h0
  have lA := HI.out.1.1
  have lB := HI.out.2.1.1
  have lC := HI.out.2.2.1.1
  go_enter Tryd.func16,Tryd.ntmps16
  go_upto_region 1 with fail
  refine cawake_start _ _ _ _ _ _ _ _ _ _ _ _ _ _ _ _ _ _ _ _ _ _ _ _ _ _ _ _ _ _ _ _ _ _ _ _ _ _ _ _ _ _ _ _ _ _ _ _ _ _ _ _ _ _ _ _ _ _ _ _ _ _ _ _ _ _ _ _ _ _ _ _ _ _ _ _ _ _ _ _ _ _ _ _ _ _ _ _ _ _ _ w A B C lA lB lC hA hB hC ?_
  intro W hb h1 h2 h3 hlt
  clear hA hB hC
  dsimp only
  obtain ⟨g1,hg1⟩ : ∃ g,g = w.heap.size := ⟨_,rfl⟩
  obtain ⟨g2,hg2⟩ : ∃ g,g = w.heap.size + 1 := ⟨_,rfl⟩
  obtain ⟨g3,hg3⟩ : ∃ g,g = w.heap.size + 1 + 1 := ⟨_,rfl⟩
  rw [← hg3] at h3 ⊢
  rw [← hg2] at h2 ⊢
  rw [← hg1] at h1 ⊢
  have R1 : Aside (Below w.heap.size w W ∧ Has W g1 (CELLS A).toArray 24 ∧ Has W g2 (CELLS B).toArray 24 ∧ Has W g3 (CELLS C).toArray 24) := ⟨hb,h1,h2,h3⟩
  clear hb hlt hg1 hg2 hg3 h2 h3
  have cN : Calls Tryd.prog 27 #[.int .i64 32,.agg (CELLS A).toArray,.agg #[.int .u64 1,.int .u64 0,.slice none 0 0]] W (NEWD W 0 32 1 0 A 1 A 0 []) := by
    have h := cnew_ok 32 A HI.out.1 1 0 none 0 0 [] (by decide) (by decide) (fun _ => rfl) W ⟨rfl,fun h => by omega,fun x hx => by simp at hx⟩ (HT.out W R1.out.1).1 (HT.out W R1.out.1).2.1 (HT.out W R1.out.1).2.2 (fun _ => by rw [cla_one]; exact ⟨Nat.le_refl _,Nat.le_refl _⟩)
    rw [cla_one] at h
    exact h
  go_wp2_with (first
    | (refine wpList_load_row rfl 24 (.tmp 1) rfl g1 rfl 24 (CELLS A).toArray (0,0) _ h1 Tryd.underlying24 rfl (info_arr lA) ?_)
    | fail)
  refine cN.mono ?_
  rintro e w1 ⟨hb1,h⟩
  clear cN h1
  rcases h with ⟨h,_⟩ | ⟨hz,b,pa,pc,la,lc,rfl,hc1⟩
  · exact absurd rfl h
  clear hz
  have R2 : Aside (CARRY w1 W.heap.size b 32 1 0 A (.slice pa 1 pc) 1 A (.slice la 0 lc) 0 [] ∧ Below W.heap.size W w1) := ⟨hc1,hb1⟩
  have k1 := R1.out.2.1.keep hb1
  have k2 := R1.out.2.2.1.keep hb1
  clear hc1 hb1
  go_wp2_with (first
    | (refine wpList_load_row rfl 24 (.tmp 1) rfl g1 rfl 24 (CELLS A).toArray (0,0) _ k1 Tryd.underlying24 rfl (info_arr lA) ?_)
    | (refine wpList_load_row rfl 24 (.tmp 2) rfl g2 rfl 24 (CELLS B).toArray (0,0) _ k2 Tryd.underlying24 rfl (info_arr lB) ?_)
    | (refine build_one _ rfl 25 24 (.tmp 27) rfl (CELLS A).toArray rfl 32 _ _ Tryd.underlying25 info_hashv (by simp [CELLS,lA]) rfl (by decide) (by decide) ?_)
    | (refine build_event rfl (.const (.int .u64 1)) (.tmp 26) (.tmp 28) rfl 1 B lB _ 1 1 rfl rfl rfl ?_)
    | fail)
  clear k1 k2
  have hba : Below w1.heap.size w1 (w1.alloc (.cells (CELLS A).toArray 24)) := (Below.refl _ _).alloc (Nat.le_refl _) _
  have hfa : Flat (w1.alloc (.cells (CELLS A).toArray 24)) (some ⟨w1.heap.size,0,none⟩) 1 A := has_flat (Has.new _ _ _) lA HI.out.1.2
  obtain ⟨bx,hbx⟩ : ∃ bx,w1.heap.size = bx := ⟨_,rfl⟩
  rw [hbx] at hfa ⊢
  have hca := R2.out.1.below hba
  have hbw : Below W.heap.size W (w1.alloc (.cells (CELLS A).toArray 24)) := R2.out.2.trans (hba.mono R2.out.2.size)
  have hww : Below w.heap.size w (w1.alloc (.cells (CELLS A).toArray 24)) := R1.out.1.trans (hbw.mono R1.out.1.size)
  clear hba hbx R2
  generalize w1.alloc (.cells (CELLS A).toArray 24) = wa at *
  refine (first_step wa W.heap.size b A B HI.out.1 HI.out.2.1 _ _ (some ⟨bx,0,none⟩) 1 hca hfa hbw.size (HT.out _ hww).1 (HT.out _ hww).2.1 (HT.out _ hww).2.2).mono ?_
  rintro e w2 ⟨rfl,pv,lv,hc2,hk2⟩
  have iP := HI.out.2.2.2
  generalize NODEH 32 A B = P at *
  have R3 : Aside (CARRY w2 W.heap.size b 32 2 0 A pv 1 P lv 1 B ∧ Below W.heap.size W w2 ∧ IsH P) := ⟨hc2,hbw.trans (hk2.below (fun k h => (hca.foot k h).1) hbw.size),iP⟩
  clear hc2 hk2 hbw hww hca hfa iP
  have cP := first_proof w2 W.heap.size b A B P HI.out.2.1 pv lv R3.out.1
  go_wp2_with fail
  refine cP.mono ?_
  rintro e w3 ⟨na,nc,rfl,ho3,hb3⟩
  clear cP
  obtain ⟨na',nc',en,_,hsh⟩ := own_shapeh ho3
  obtain ⟨gn,rfl⟩ : ∃ g,na = some ⟨g,0,none⟩ := by
    obtain ⟨g,hg⟩ := hsh (by decide)
    injection en with e1
    exact ⟨g,e1.trans hg⟩
  clear hsh en
  go_upto_region 7 with fail
  obtain ⟨g7,hg7⟩ : ∃ g7,w3.heap.size = g7 := ⟨_,rfl⟩
  have hb4 : Below w3.heap.size w3 (w3.alloc (.cells #[.int .u64 2,.int .u64 0,.slice (some ⟨gn,0,none⟩) 1 nc] 56)) := (Below.refl _ _).alloc (Nat.le_refl _) _
  have hp7 : Has (w3.alloc (.cells #[.int .u64 2,.int .u64 0,.slice (some ⟨gn,0,none⟩) 1 nc] 56)) g7 #[.int .u64 2,.int .u64 0,.slice (some ⟨gn,0,none⟩) 1 nc] 56 := Has.at _ _ _ hg7.symm
  rw [hg7]
  generalize w3.alloc (.cells #[.int .u64 2,.int .u64 0,.slice (some ⟨gn,0,none⟩) 1 nc] 56) = w4 at *
  have hb24 : Below w2.heap.size w2 w4 := hb3.trans (hb4.mono hb3.size)
  have R4 : Aside (CARRY w4 W.heap.size b 32 2 0 A pv 1 P lv 1 B ∧ Below W.heap.size W w4 ∧ w4.ownsRow w2.heap.size 24 32 (.slice (some ⟨gn,0,none⟩) 1 nc) 1 (CELLS B) ∧ Has w4 g7 #[.int .u64 2,.int .u64 0,.slice (some ⟨gn,0,none⟩) 1 nc] 56) := ⟨R3.out.1.below hb24,R3.out.2.1.trans (hb24.mono R3.out.2.1.size),own_below ho3 hb4,hp7⟩
  have iP := R3.out.2.2
  clear hb4 hp7 hb24 hg7 ho3 hb3 R3
  obtain ⟨qa,qc,hpv,_,_⟩ := own_shapeh R4.out.1.peaks
  subst hpv
  have cK : Aside (Calls Tryd.prog 30 #[.pointer (some ⟨b,0,none⟩)] w4 (CLONED w4 1 P)) := cpeaks12_ok b qa 1 qc P (by decide) (own_nil R4.out.1.peaks).2 w4 (CRR_at R4.out.1.has R4.out.1.len).2.2.1 (own_flat R4.out.1.peaks iP.2)
  go_wp2_with fail
  refine cK.out.mono ?_
  rintro e w5 ⟨ka,kc,rfl,ho5,_,_,hb5⟩
  clear cK
  have R5 : Aside (w5.ownsRow w4.heap.size 24 32 (.slice ka 1 kc) 1 (CELLS P) ∧ Below w4.heap.size w4 w5 ∧ Below W.heap.size W w5 ∧ w5.cell? ⟨g7,2,none⟩ = some (.slice (some ⟨gn,0,none⟩) 1 nc) ∧ w5.rangeAt gn 0 (CELLS B) ∧ w5.rangeAt g2 0 (CELLS B) ∧ gn < w5.heap.size ∧ g2 < w5.heap.size ∧ g7 < w5.heap.size) := by
    obtain ⟨r1,r2,r3,r4⟩ := R4.out
    have h := r2.trans (hb5.mono r2.size)
    have h3 := own_below r3 hb5
    have h2 := R1.out.2.2.1.keep h
    have h7 := r4.keep hb5
    have hr := own_hash h3 (i := 0) (by decide) lB
    have e2 : HSH B 0 = B := by
      unfold HSH
      rw [Nat.mul_zero,List.drop_zero,List.take_of_length_le (by rw [lB]; decide)]
    rw [e2] at hr
    exact ⟨ho5,hb5,h,h7.cell 2,hr,has_range h2,(h3.lt gn rfl).2,h2.lt,h7.lt⟩
  clear ho5 hb5
  go_upto_region 8 with fail
  refine cawake8 _ g2 g7 gn nc ka kc B lB (fun V => Below w5.heap.size w5 V) (Below.refl _ _).drew (fun V hb => ?_) (same_hash lB) (fun _ _ _ _ _ h => h) ?_
  · obtain ⟨r1,r2,r3,r4,r5,r6,r7,r8,r9⟩ := R5.out
    exact ⟨(hb.cell (p := ⟨g7,2,none⟩) r9).trans r4,range_below r5 hb r7,range_below r6 hb r8⟩
  intro w6 hb6
  have R6 : Aside (CARRY w6 W.heap.size b 32 2 0 A (.slice qa 1 qc) 1 P lv 1 B ∧ Below W.heap.size W w6 ∧ w6.ownsRow w4.heap.size 24 32 (.slice ka 1 kc) 1 (CELLS P) ∧ Has w6 g3 (CELLS C).toArray 24 ∧ ∀ k,CFT b (.slice qa 1 qc) lv k → W.heap.size ≤ k ∧ k < w4.heap.size) := by
    obtain ⟨r1,r2,r3,r4,r5,r6,r7,r8,r9⟩ := R5.out
    have h46 := r2.trans (hb6.mono r2.size)
    have h := R4.out.2.1.trans (h46.mono R4.out.2.1.size)
    exact ⟨R4.out.1.below h46,h,own_below r1 hb6,R1.out.2.2.2.keep h,R4.out.1.foot⟩
  clear R4 R5 hb6
  have k3 := R6.out.2.2.2.1
  go_wp2_with (first
    | (refine wpList_load_row rfl 24 (.tmp 3) rfl g3 rfl 24 (CELLS C).toArray (0,0) _ k3 Tryd.underlying24 rfl (info_arr lC) ?_)
    | (refine build_event rfl (.const (.int .u64 2)) (.tmp 57) (.tmp 58) rfl 2 C lC _ 1 kc rfl rfl rfl ?_)
    | fail)
  have hww : Below w.heap.size w w6 := R1.out.1.trans (R6.out.2.1.mono R1.out.1.size)
  refine (second_step w6 W.heap.size b A B P C iP HI.out.2.2.1 _ _ ka kc R6.out.1 (own_flat R6.out.2.2.1 iP.2) R6.out.2.1.size (HT.out _ hww).1 (HT.out _ hww).2.1 (HT.out _ hww).2.2).mono ?_
  rintro e w7 ⟨rfl,pv2,lv2,hc7,hk7⟩
  have R7 : Aside (CARRY w7 W.heap.size b 32 3 0 A pv2 2 (P ++ C) lv2 1 B ∧ Below w.heap.size w w7 ∧ w7.ownsRow w4.heap.size 24 32 (.slice ka 1 kc) 1 (CELLS P) ∧ Has w7 g3 (CELLS C).toArray 24) := by
    obtain ⟨r1,r2,r3,r4,r5⟩ := R6.out
    have h67 : Below W.heap.size w6 w7 := hk7.below (fun k h => (r5 k h).1) r2.size
    have h := r2.trans h67
    exact ⟨hc7,R1.out.1.trans (h.mono R1.out.1.size),hk7.own r3 (fun k e q => by have := (r3.lt k e).1; have := (r5 k q).2; omega),R1.out.2.2.2.keep h⟩
  clear hc7 hk7 hww R6 k3
  go_upto_region 11 with fail
  refine cawake11 _ g3 b ka kc C lC (fun V => Below w7.heap.size w7 V) (fun gn cn V => Below w7.heap.size w7 V ∧ V.rangeAt gn 32 (CELLS C)) (Below.refl _ _).drew (fun V hb => has_range (R7.out.2.2.2.keep hb)) (fun _ _ _ h => h.1) (fun _ _ _ h => h.2) (same_hash lC) (fun V hb => ?_) (fun V hb => ?_) (fun V hb => ?_) (fun V hb => ?_) (fun _ _ _ _ _ h => h) ?_
  · have hc := R7.out.1.below hb
    refine (csize_ok b 3 V (CRR_at hc.has hc.len).2.1).mono ?_
    rintro e w' ⟨rfl,rfl⟩
    exact ⟨rfl,hb⟩
  · refine (second_proof V W.heap.size b A B P C HI.out.2.1 iP HI.out.2.2.1 pv2 lv2 (R7.out.1.below hb)).mono ?_
    rintro e w' ⟨a,c,rfl,ho,hb'⟩
    exact ⟨a,c,rfl,hb.trans (hb'.mono hb.size)⟩
  · refine (second_proof V W.heap.size b A B P C HI.out.2.1 iP HI.out.2.2.1 pv2 lv2 (R7.out.1.below hb)).mono ?_
    rintro e w' ⟨a,c,rfl,ho,hb'⟩
    obtain ⟨a2,c2,en,_,hsh⟩ := own_shapeh ho
    obtain ⟨g,rfl⟩ : ∃ g,a = some ⟨g,0,none⟩ := by
      obtain ⟨g,hg⟩ := hsh (by decide)
      injection en with e1
      exact ⟨g,e1.trans hg⟩
    refine ⟨g,c,rfl,hb.trans (hb'.mono hb.size), ?_⟩
    have hr := own_hash ho (i := 1) (by decide) (by rw [List.length_append,lB,lC])
    have e2 : HSH (B ++ C) 1 = C := by
      unfold HSH
      rw [show 32 * 1 = B.length by rw [lB],List.drop_left,List.take_of_length_le (by rw [lC]; decide)]
    rw [e2] at hr
    exact hr
  · refine (third_step V W.heap.size b A B P C C lC iP HI.out.2.2.1 pv2 lv2 ka kc P (R7.out.1.below hb) (own_flat (own_below R7.out.2.2.1 hb) iP.2)).mono ?_
    rintro e w' ⟨rfl,hb'⟩
    exact ⟨rfl,hb.trans (hb'.mono hb.size)⟩
  · intro a1 c1 g9 c9 w8 hb8
    have FN : Aside (Below w.heap.size w w8) := R7.out.2.1.trans (hb8.mono R7.out.2.1.size)
    clear hb8 R7 R1 HT HI
    go_wp2_with fail
    go_ret
    exact ⟨rfl,FN.out⟩
end Go.Proofs.YtkpgbhokoohimaaDoor

/- The walk of CarryRound. -/
namespace Go.Proofs.YtkpgbhokoohimaaDoor
open Go.RowKit
set_option maxRecDepth 100000

theorem EVT_set33 (X : Nat) (leaf : List Int) (hl : leaf.length = 32) (v v' : Value) : (EVT X leaf v).setIfInBounds 33 v' = EVT X leaf v' := by
  have h32 : (CELLS leaf).length = 32 := by simp [CELLS,hl]
  simp only [EVT,List.setIfInBounds_toArray,List.set_cons_succ]
  rw [List.set_append_right _ _ (by omega),h32]
  rfl
theorem EVD_leaf (l : List Int) : (EVD l).2.2.1.length = 32 := by
  unfold EVD
  split
  · rfl
  split
  · rfl
  unfold ED1
  split
  · rfl
  split
  · rfl
  unfold ED2
  split
  · rfl
  split
  · rfl
  show (List.take 32 _).length = 32
  rw [List.length_take]
  omega
theorem EVE_range {X n : Nat} {leaf l : List Int} (hX : X < 2 ^ 64) (hl : IsH leaf) (hr : ∀ x ∈ l,0 ≤ x ∧ x ≤ 255) (hn : l.length = 32 * n) (h : n ≤ 1000) : (∀ x ∈ (EVE X n leaf l).2,0 ≤ x ∧ x ≤ 255) ∧ (EVE X n leaf l).2.length ≤ 1000000 := by
  unfold EVE
  split
  · simp
  split
  · simp
  have h1 := SHORT_length X
  have h2 := NTOP_le X
  refine ⟨fun x hx => ?_,by simp only [List.length_append,List.length_cons,List.length_nil,h1,hl.1,hn]; omega⟩
  simp only [List.mem_append,List.mem_singleton] at hx
  rcases hx with ((hx | hx) | hx) | hx
  · subst hx
    decide
  · exact SHORT_range hX x hx
  · exact hl.2 x hx
  · exact hr x hx
end Go.Proofs.YtkpgbhokoohimaaDoor

/- A list of hashes of one's own that is written over with a mark. -/
namespace Go.Proofs.YtkpgbhokoohimaaDoor
open Go.RowKit
set_option maxRecDepth 100000

/-- values laid over a list, one behind the other, from o on. -/
def OVERW (xs : List Value) : Nat → List Value → List Value
  | _, [] => xs
  | o,v :: vs => OVERW (xs.set o v) (o + 1) vs
theorem OVERW_eq : ∀ (vs xs : List Value) (o : Nat),o + vs.length ≤ xs.length → OVERW xs o vs = xs.take o ++ vs ++ xs.drop (o + vs.length)
  | [],xs,o,_ => by simp [OVERW]
  | v :: vs,xs,o,h => by
    simp only [List.length_cons] at h
    rw [OVERW,OVERW_eq vs (xs.set o v) (o + 1) (by rw [List.length_set]; omega)]
    rw [List.take_set,List.drop_set,if_pos (by omega)]
    rw [List.take_add_one,List.getElem?_eq_getElem (by omega)]
    simp only [Option.toList_some,List.length_cons]
    rw [List.set_append_right _ _ (by simp; omega)]
    simp only [List.length_take,show min o xs.length = o by omega,Nat.sub_self,List.set_cons_zero]
    simp [Nat.add_comm,Nat.add_left_comm]
theorem own_over {B : Nat} {t : TypeId} {s g n c : Nat} : ∀ (vs xs : List Value) (o : Nat) (w : World),w.ownsRow B t s (.slice (some ⟨g,0,none⟩) n c) n xs → (w.setCells g o vs).ownsRow B t s (.slice (some ⟨g,0,none⟩) n c) n (OVERW xs o vs) ∧ w.grownBy (w.setCells g o vs) (some g)
  | [],xs,o,w,h => ⟨h,grown_refl _ _⟩
  | v :: vs,xs,o,w,h => by
    obtain ⟨h1,h2⟩ := h.stored o v
    obtain ⟨h3,h4⟩ := own_over vs _ (o + 1) _ h1
    exact ⟨h3,grown_trans h2 h4 (.inl rfl)⟩
/-- the mark m. -/
def MK (m : Int) : List Int := m :: List.replicate 31 0
theorem MK_length (m : Int) : (MK m).length = 32 := rfl
theorem MK_arr (m : Int) : (CELLS (MK m)).toArray = #[.int .u8 m,.int .u8 0,.int .u8 0,.int .u8 0,.int .u8 0,.int .u8 0,.int .u8 0,.int .u8 0,.int .u8 0,.int .u8 0,.int .u8 0,.int .u8 0,.int .u8 0,.int .u8 0,.int .u8 0,.int .u8 0,.int .u8 0,.int .u8 0,.int .u8 0,.int .u8 0,.int .u8 0,.int .u8 0,.int .u8 0,.int .u8 0,.int .u8 0,.int .u8 0,.int .u8 0,.int .u8 0,.int .u8 0,.int .u8 0,.int .u8 0,.int .u8 0] := rfl
/-- so many marks. -/
def MKS (m : Int) : Nat → List Int
  | 0 => []
  | k + 1 => MKS m k ++ MK m
theorem MKS_length (m : Int) : ∀ k,(MKS m k).length = 32 * k
  | 0 => rfl
  | k + 1 => by rw [MKS,List.length_append,MKS_length m k,MK_length]; omega
theorem MKS_add (m : Int) (a : Nat) : ∀ b,MKS m (a + b) = MKS m a ++ MKS m b
  | 0 => by simp [MKS]
  | b + 1 => by rw [← Nat.add_assoc,MKS,MKS,MKS_add m a b,List.append_assoc]
theorem MKS_at (m : Int) {k i : Nat} (hi : i < k) : HSH (MKS m k) i = MK m := by
  unfold HSH
  rw [show k = i + (1 + (k - i - 1)) by omega,MKS_add,MKS_add,List.drop_left' (by rw [MKS_length]),List.take_left' (by rw [MKS_length])]
  rfl
/-- the first j are marks. -/
def MKP (xs : List Value) (m : Int) (j : Nat) : List Value := CELLS (MKS m j) ++ xs.drop (32 * j)
theorem MKP_zero (xs : List Value) (m : Int) : MKP xs m 0 = xs := by simp [MKP,MKS,CELLS]
theorem MKP_all {xs : List Value} {n : Nat} (h : xs.length = 32 * n) (m : Int) : MKP xs m n = CELLS (MKS m n) := by
  unfold MKP
  rw [List.drop_of_length_le (by omega),List.append_nil]
theorem MKP_length {xs : List Value} {n j : Nat} (h : xs.length = 32 * n) (hj : j ≤ n) (m : Int) : (MKP xs m j).length = 32 * n := by
  unfold MKP
  rw [List.length_append,List.length_drop,CELLS,List.length_map,MKS_length]
  omega
theorem MKP_next {xs : List Value} {n j : Nat} (h : xs.length = 32 * n) (hj : j < n) (m : Int) : OVERW (MKP xs m j) (j * 32) (CELLS (MK m)) = MKP xs m (j + 1) := by
  have hl : (CELLS (MK m)).length = 32 := rfl
  have hk : (CELLS (MKS m j)).length = j * 32 := by rw [CELLS,List.length_map,MKS_length]; omega
  rw [OVERW_eq _ _ _ (by rw [MKP_length h (by omega),hl]; omega),hl]
  unfold MKP
  rw [List.take_left' hk,List.drop_append,List.drop_of_length_le (by omega),List.nil_append,hk,List.drop_drop,MKS,CELLS_append]
  rw [show 32 * j + (j * 32 + 32 - j * 32) = 32 * (j + 1) by omega]
theorem step_pure {o : Oper} {a : Act} {w w' : World} {K : Act → World → Prop} {Q : Exit → Act → World → Prop} {v : Value} (hrun : (execOp a.eval o).run Tryd.prog w = .ok (.value v) w') (h : K (a.put o.dst v) w') : Oper.wp Tryd.prog o a w K Q := by
  unfold Oper.wp
  rw [hrun]
  exact h
end Go.Proofs.YtkpgbhokoohimaaDoor
