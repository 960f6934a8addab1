/- Texts of SpanMakes, one behind the other: StorePutRegions. -/
import Derived.Great.BuildSlice
import Derived.Test.YtnmalbngdhjhjaaGreatDoorSpanMakesP7
namespace Go.Proofs.YtnmalbngdhjhjaaGreatDoor.HX
open Go.RowKit
set_option maxRecDepth 100000
theorem z06 {ops:Array Oper} {o:Oper} {a:Act} {w w':World} {K:Act→World→Prop} {Q:Exit→Act→World→Prop} {E:Prop} {v:Value} (hg:o.guard=none)
    (hrun:(execOp a.eval o).run Tryz.prog w=.ok (.value v) w') (h:K (a.put o.dst v) w'):if Region.wanted o (yielded ops a.tmps)=true then Oper.wp Tryz.prog o a w K Q else E:=by
  have hw:Region.wanted o (yielded ops a.tmps)=true:=by simp [Region.wanted,hg]
  rw [if_pos hw]
  unfold Oper.wp
  rw [hrun]
  exact h
theorem zc9 {w:World} {b o:Nat} {v:Value} (h:w.cell? ⟨b,o,none⟩=some v):(Instr.loadAt 205 (.pointer (some ⟨b,o,none⟩))).run Tryz.prog w=.ok v w:=by simp [go_sem,h]
theorem z0Q {w:World} {b o:Nat} {v:Value} (h:w.cell? ⟨b,o,none⟩=some v):(Instr.loadAt 22 (.pointer (some ⟨b,o,none⟩))).run Tryz.prog w=.ok v w:=by simp [go_sem,h]
theorem z3d {w:World} {b o:Nat} {v:Value} (h:w.cell? ⟨b,o,none⟩=some v):(Instr.loadAt 24 (.pointer (some ⟨b,o,none⟩))).run Tryz.prog w=.ok v w:=by simp [go_sem,h]
theorem zaV {w:World} {b o n c:Nat} {y:Value} {a:Option Addr} (h:w.cell? ⟨b,o,none⟩=some y) (hf:w.frozen? ⟨b,o,none⟩=false):(Instr.storeAt 205 (.pointer (some ⟨b,o,none⟩)) (.slice a n c)).run Tryz.prog w=.ok () (w.setCell ⟨b,o,none⟩ (.slice a n c)):=by simp [go_sem,h,hf]
theorem z7X {w:World} {b o n c:Nat} {y:Value} {a:Option Addr} (h:w.cell? ⟨b,o,none⟩=some y) (hf:w.frozen? ⟨b,o,none⟩=false):(Instr.storeAt 22 (.pointer (some ⟨b,o,none⟩)) (.slice a n c)).run Tryz.prog w=.ok () (w.setCell ⟨b,o,none⟩ (.slice a n c)):=by simp [go_sem,h,hf]
theorem z5X {w:World} {b o:Nat} {x:Int} {y:Value} (h:w.cell? ⟨b,o,none⟩=some y) (hf:w.frozen? ⟨b,o,none⟩=false):(Instr.storeAt 24 (.pointer (some ⟨b,o,none⟩)) (.int .u64 x)).run Tryz.prog w=.ok () (w.setCell ⟨b,o,none⟩ (.int .u64 x)):=by simp [go_sem,h,hf]
theorem z6X (q:Nat) (w:World):(Instr.build 213 #[(0,.int .u64 (q:Int))]).run Tryz.prog w=.ok (.agg (RQ q)) w:=run_build (P:=Tryz.prog) w 213 _ _ (by kernel_rfl)
theorem za4 (t e:TypeId) (C:Array Value) (n:Nat) (z:Value) (by':Nat) (hu:Tryz.prog.underlying t=some (.slice e)) (hi:(Tryz.prog.info? e).map (fun i=>(i.zero,i.size,i.bytes))=some (some z,n,by')) (hC:C.size=n) (hz:z.cells.size=n) (hn:0<n) (hs:n≤1000) (w:World):
    (Instr.buildSlice t 1 #[(0,.agg C)]).run Tryz.prog w=.ok (.slice (some ⟨w.heap.size,0,none⟩) 1 1) (w.alloc (.cells C e)):=by
  obtain ⟨i,hie,hz',hs1,_⟩:=info_parts hi
  refine run_buildSlice w t e 1 _ C i z hu hie hz' (by rw [hs1];omega) (by rw [hs1];omega) ?_
  have:=Great.fill_whole (s:=n) hn [.agg C] ((Array.range (1*i.size)).map (z.cells[· % z.cells.size]!)) (fun v hv=>by simp at hv;subst hv;exact hC) (by simp [hs1])
  simp [Value.cells] at this
  rw [hs1]
  simp
  rw [hs1] at this
  exact this
theorem z4Z (q:Nat) (w:World):(Instr.buildSlice 205 1 #[(0,.agg (RQ q))]).run Tryz.prog w=.ok (.slice (some ⟨w.heap.size,0,none⟩) 1 1) (w.alloc (.cells (RQ q) 213)):=za4 205 213 (RQ q) 3 _ 40 Tryz.underlying205 z4q rfl rfl (by decide) (by decide) w
theorem z1i (h:Nat→Nat) (w:World):(Instr.buildSlice 22 1 #[(0,.agg (UARR .u8 32 h))]).run Tryz.prog w=.ok (.slice (some ⟨w.heap.size,0,none⟩) 1 1) (w.alloc (.cells (UARR .u8 32 h) 35)):=za4 22 35 (UARR .u8 32 h) 32 _ 32 Tryz.underlying22 z3N (z03 _ _ _) (by simp [Value.cells,z03]) (by decide) (by decide) w
theorem z2c {w:World} {g:Nat} {h:Nat→Nat} (hg:Has w g (UARR .u8 32 h) 35):(Instr.loadAt 35 (.pointer (some ⟨g,0,none⟩))).run Tryz.prog w=.ok (.agg (UARR .u8 32 h)) w:=by
  simp only [Instr.loadAt,Instr.sureAddr,Sem.run_bind,Sem.run_pure,Result.andThen]
  exact run_loadVar_row w g 35 35 (UARR .u8 32 h) (0,0) _ hg Tryz.underlying35 rfl (z04 _)
@[go_sem] def P3OPSq0:Oper:=⟨some 17,.move (.tmp 0),153,"chunk.go:67",#[],none⟩
@[go_sem] def P3OPSq1:Oper:=⟨some 18,.move (.tmp 0),153,"chunk.go:67",#[],none⟩
@[go_sem] def P3OPSq2:Oper:=⟨some 19,.nilCheck (.tmp 18),0,"chunk.go:67",#[⟨1,.data⟩],none⟩
@[go_sem] def P3OPSq3:Oper:=⟨some 20,.fieldAddr 207 (.tmp 19) 0,0,"chunk.go:67",#[⟨2,.data⟩],none⟩
@[go_sem] def P3OPSq4:Oper:=⟨some 21,.load 205 (.tmp 20),205,"chunk.go:67",#[⟨3,.data⟩],none⟩
@[go_sem] def P3OPSq5:Oper:=⟨some 22,.move (.tmp 6),3,"chunk.go:67",#[],none⟩
@[go_sem] def P3OPSq6:Oper:=⟨some 23,.move (.tmp 1),24,"chunk.go:67",#[],none⟩
@[go_sem] def P3OPSq7:Oper:=⟨some 24,.call {callee:=.value (.func 207),args:=#[.tmp 23],argTypes:=#[24]},24,"chunk.go:67",#[⟨6,.data⟩],none⟩
@[go_sem] def P3OPSq8:Oper:=⟨some 25,.build 213 #[(0,.tmp 24)],213,"chunk.go:67",#[⟨7,.data⟩],none⟩
@[go_sem] def P3OPSq9:Oper:=⟨some 26,.buildSlice 205 1 #[(0,.tmp 25)],205,"chunk.go:67",#[⟨8,.data⟩],none⟩
@[go_sem] def P3OPSq10:Oper:=⟨some 27,.call {callee:=.value (.func 206),args:=#[.tmp 21,.tmp 22,.tmp 26],argTypes:=#[205,3,205]},205,"chunk.go:67",#[⟨4,.data⟩,⟨5,.data⟩,⟨9,.data⟩,⟨7,.chain⟩],none⟩
@[go_sem] def P3OPSq11:Oper:=⟨some 28,.nilCheck (.tmp 17),0,"chunk.go:67",#[⟨0,.data⟩,⟨0,.phase⟩,⟨1,.phase⟩,⟨2,.phase⟩,⟨3,.phase⟩,⟨4,.phase⟩,⟨5,.phase⟩,⟨6,.phase⟩,⟨7,.phase⟩,⟨8,.phase⟩,⟨9,.phase⟩,⟨10,.phase⟩],none⟩
@[go_sem] def P3OPSq12:Oper:=⟨some 29,.fieldAddr 207 (.tmp 28) 0,0,"chunk.go:67",#[⟨11,.data⟩,⟨0,.phase⟩,⟨1,.phase⟩,⟨2,.phase⟩,⟨3,.phase⟩,⟨4,.phase⟩,⟨5,.phase⟩,⟨6,.phase⟩,⟨7,.phase⟩,⟨8,.phase⟩,⟨9,.phase⟩,⟨10,.phase⟩],none⟩
@[go_sem] def P3OPSq13:Oper:=⟨none,.store 205 (.tmp 29) (.tmp 27),0,"chunk.go:67",#[⟨12,.data⟩,⟨10,.data⟩,⟨10,.chain⟩,⟨0,.phase⟩,⟨1,.phase⟩,⟨2,.phase⟩,⟨3,.phase⟩,⟨4,.phase⟩,⟨5,.phase⟩,⟨6,.phase⟩,⟨7,.phase⟩,⟨8,.phase⟩,⟨9,.phase⟩,⟨10,.phase⟩],none⟩
def z1y:Array Oper:=#[P3OPSq0,P3OPSq1,P3OPSq2,P3OPSq3,P3OPSq4,P3OPSq5,P3OPSq6,P3OPSq7,P3OPSq8,P3OPSq9,P3OPSq10,P3OPSq11,P3OPSq12,P3OPSq13]
set_option maxHeartbeats 2000000 in
theorem put3 {Q:Exit→Act→World→Prop} (u2 u3 u4 u5 u7 u8 u9 u10 u11 u12 u13 u14 u15 u16 u17 u18 u19 u20 u21 u22 u23 u24 u25 u26 u27 u28 u29 u30 u31 u32 u33 u34 u35 u36 u37 u38 u39 u40 u41 u42 u43 u44 u45 u46 u47 u48 u49 u50 u51 u52 u53 u54 u55 u56 u57 u58:Value) (W:World) (g p n q:Nat) (v0:Value) (T:Value→World→Prop) (T_one:∀ (X:Value) {w:World},T X w→∃ a m c,X=.slice a m c) (hbx:Has W g #[v0] 207) (cR:∀ w,Calls Tryz.prog 207 #[.int .u64 (p:Int)] w fun e w'=>e=.returned (.int .u64 (q:Int))∧w=w') (cI:Calls Tryz.prog 206 #[v0,.int .i64 (n:Int),.slice (some ⟨W.heap.size,0,none⟩) 1 1] (W.drew.alloc (.cells (RQ q) 213)) fun e w'=>∃ X,e=.returned X∧(T X w'∧∃ y,Has w' g #[y] 207)) (hQ:∀ c (a:Act) (t:Tmp) (v:Value) w,Q (.panic c) (a.put (some t) v) w→Q (.panic c) a w)
    (h:∀ (X:Value) (w':World),(T X w'∧∃ y,Has w' g #[y] 207)→Q .normal {tmps:=#[.pointer (some ⟨g,0,none⟩),.int .u64 (p:Int),u2,u3,u4,u5,.int .i64 (n:Int),u7,u8,u9,u10,u11,u12,u13,u14,u15,u16,.pointer (some ⟨g,0,none⟩),.pointer (some ⟨g,0,none⟩),.pointer (some ⟨g,0,none⟩),.pointer (some ⟨g,0,none⟩),v0,.int .i64 (n:Int),.int .u64 (p:Int),.int .u64 (q:Int),.agg (RQ q),.slice (some ⟨W.heap.size,0,none⟩) 1 1,X,.pointer (some ⟨g,0,none⟩),.pointer (some ⟨g,0,none⟩),u30,u31,u32,u33,u34,u35,u36,u37,u38,u39,u40,u41,u42,u43,u44,u45,u46,u47,u48,u49,u50,u51,u52,u53,u54,u55,u56,u57,u58],defers:=[]} (World.setCell w' ⟨g,0,none⟩ X)):(Code.region 3 z1y true).wp Tryz.prog Q {tmps:=#[.pointer (some ⟨g,0,none⟩),.int .u64 (p:Int),u2,u3,u4,u5,.int .i64 (n:Int),u7,u8,u9,u10,u11,u12,u13,u14,u15,u16,u17,u18,u19,u20,u21,u22,u23,u24,u25,u26,u27,u28,u29,u30,u31,u32,u33,u34,u35,u36,u37,u38,u39,u40,u41,u42,u43,u44,u45,u46,u47,u48,u49,u50,u51,u52,u53,u54,u55,u56,u57,u58],defers:=[]} W:=by
  have hld:∀ w,Has w g #[v0] 207→(Instr.loadAt 205 (.pointer (some ⟨g,0,none⟩))).run Tryz.prog w=.ok v0 w:=fun w h=>zc9 (h.cell 0)
  have h0:Has W.drew g #[v0] 207:=hbx
  have h1:=h0.alloc (.cells (RQ q) 213)
  have kX:∀ (X:Value) (w':World),(T X w'∧∃ y,Has w' g #[y] 207)→wpAny Tryz.prog .any z1y Q 3 #[true,true,true,true,true,true,true,true,true,true,true,false,false,false] {tmps:=#[.pointer (some ⟨g,0,none⟩),.int .u64 (p:Int),u2,u3,u4,u5,.int .i64 (n:Int),u7,u8,u9,u10,u11,u12,u13,u14,u15,u16,.pointer (some ⟨g,0,none⟩),.pointer (some ⟨g,0,none⟩),.pointer (some ⟨g,0,none⟩),.pointer (some ⟨g,0,none⟩),v0,.int .i64 (n:Int),.int .u64 (p:Int),.int .u64 (q:Int),.agg (RQ q),.slice (some ⟨W.heap.size,0,none⟩) 1 1,X,u28,u29,u30,u31,u32,u33,u34,u35,u36,u37,u38,u39,u40,u41,u42,u43,u44,u45,u46,u47,u48,u49,u50,u51,u52,u53,u54,u55,u56,u57,u58],defers:=[]} w':=fun X w' hX=>by
    have z:wpAny Tryz.prog .any z1y Q 0 #[true,true,true,true,true,true,true,true,true,true,true,true,true,true] {tmps:=#[.pointer (some ⟨g,0,none⟩),.int .u64 (p:Int),u2,u3,u4,u5,.int .i64 (n:Int),u7,u8,u9,u10,u11,u12,u13,u14,u15,u16,.pointer (some ⟨g,0,none⟩),.pointer (some ⟨g,0,none⟩),.pointer (some ⟨g,0,none⟩),.pointer (some ⟨g,0,none⟩),v0,.int .i64 (n:Int),.int .u64 (p:Int),.int .u64 (q:Int),.agg (RQ q),.slice (some ⟨W.heap.size,0,none⟩) 1 1,X,.pointer (some ⟨g,0,none⟩),.pointer (some ⟨g,0,none⟩),u30,u31,u32,u33,u34,u35,u36,u37,u38,u39,u40,u41,u42,u43,u44,u45,u46,u47,u48,u49,u50,u51,u52,u53,u54,u55,u56,u57,u58],defers:=[]} (World.setCell w' ⟨g,0,none⟩ X):=wpAny_done (by kernel_rfl) (h X w' hX) _
    have z13:wpAny Tryz.prog .any z1y Q 1 #[true,true,true,true,true,true,true,true,true,true,true,true,true,false] {tmps:=#[.pointer (some ⟨g,0,none⟩),.int .u64 (p:Int),u2,u3,u4,u5,.int .i64 (n:Int),u7,u8,u9,u10,u11,u12,u13,u14,u15,u16,.pointer (some ⟨g,0,none⟩),.pointer (some ⟨g,0,none⟩),.pointer (some ⟨g,0,none⟩),.pointer (some ⟨g,0,none⟩),v0,.int .i64 (n:Int),.int .u64 (p:Int),.int .u64 (q:Int),.agg (RQ q),.slice (some ⟨W.heap.size,0,none⟩) 1 1,X,.pointer (some ⟨g,0,none⟩),.pointer (some ⟨g,0,none⟩),u30,u31,u32,u33,u34,u35,u36,u37,u38,u39,u40,u41,u42,u43,u44,u45,u46,u47,u48,u49,u50,u51,u52,u53,u54,u55,u56,u57,u58],defers:=[]} w':=by
      refine wpAny_ready (rs:=[13]) (by kernel_rfl) (by simp) ?_
      exact AllReady.cons (o:=P3OPSq13) rfl (fun K hK=>z1a rfl (z1p (by obtain ⟨y,hy⟩:=hX.2;obtain ⟨a,m,c,rfl⟩:=T_one X hX.1;exact zaV (hy.cell 0) (hy.frozen 0))) (hK _ _ z)) AllReady.nil
    have z12:wpAny Tryz.prog .any z1y Q 2 #[true,true,true,true,true,true,true,true,true,true,true,true,false,false] {tmps:=#[.pointer (some ⟨g,0,none⟩),.int .u64 (p:Int),u2,u3,u4,u5,.int .i64 (n:Int),u7,u8,u9,u10,u11,u12,u13,u14,u15,u16,.pointer (some ⟨g,0,none⟩),.pointer (some ⟨g,0,none⟩),.pointer (some ⟨g,0,none⟩),.pointer (some ⟨g,0,none⟩),v0,.int .i64 (n:Int),.int .u64 (p:Int),.int .u64 (q:Int),.agg (RQ q),.slice (some ⟨W.heap.size,0,none⟩) 1 1,X,.pointer (some ⟨g,0,none⟩),u29,u30,u31,u32,u33,u34,u35,u36,u37,u38,u39,u40,u41,u42,u43,u44,u45,u46,u47,u48,u49,u50,u51,u52,u53,u54,u55,u56,u57,u58],defers:=[]} w':=by
      refine tkB P3OPSq12 (.pointer (some ⟨g,0,none⟩)) 12 hQ ?_
      simp only [List.set]
      exact z13
    have z11:wpAny Tryz.prog .any z1y Q 3 #[true,true,true,true,true,true,true,true,true,true,true,false,false,false] {tmps:=#[.pointer (some ⟨g,0,none⟩),.int .u64 (p:Int),u2,u3,u4,u5,.int .i64 (n:Int),u7,u8,u9,u10,u11,u12,u13,u14,u15,u16,.pointer (some ⟨g,0,none⟩),.pointer (some ⟨g,0,none⟩),.pointer (some ⟨g,0,none⟩),.pointer (some ⟨g,0,none⟩),v0,.int .i64 (n:Int),.int .u64 (p:Int),.int .u64 (q:Int),.agg (RQ q),.slice (some ⟨W.heap.size,0,none⟩) 1 1,X,u28,u29,u30,u31,u32,u33,u34,u35,u36,u37,u38,u39,u40,u41,u42,u43,u44,u45,u46,u47,u48,u49,u50,u51,u52,u53,u54,u55,u56,u57,u58],defers:=[]} w':=by
      refine tkB P3OPSq11 (.pointer (some ⟨g,0,none⟩)) 11 hQ ?_
      simp only [List.set]
      exact z12
    exact z11
  have s4_7_8_9:wpAny Tryz.prog .any z1y Q 4 #[true,true,true,true,true,true,true,true,true,true,false,false,false,false] {tmps:=#[.pointer (some ⟨g,0,none⟩),.int .u64 (p:Int),u2,u3,u4,u5,.int .i64 (n:Int),u7,u8,u9,u10,u11,u12,u13,u14,u15,u16,.pointer (some ⟨g,0,none⟩),.pointer (some ⟨g,0,none⟩),.pointer (some ⟨g,0,none⟩),.pointer (some ⟨g,0,none⟩),v0,.int .i64 (n:Int),.int .u64 (p:Int),.int .u64 (q:Int),.agg (RQ q),.slice (some ⟨W.heap.size,0,none⟩) 1 1,u27,u28,u29,u30,u31,u32,u33,u34,u35,u36,u37,u38,u39,u40,u41,u42,u43,u44,u45,u46,u47,u48,u49,u50,u51,u52,u53,u54,u55,u56,u57,u58],defers:=[]} (World.alloc W.drew (.cells (RQ q) 213)):=by
    refine wpAny_ready (rs:=[10]) (by kernel_rfl) (by simp) ?_
    refine AllReady.cons (o:=P3OPSq10) rfl (fun K hK=>?_) ?_
    · rw [if_pos (by rfl)]
      go_simp
      refine (cI).mono ?_
      rintro e w' ⟨X,rfl,hX⟩
      exact hK _ _ (kX X w' hX)
    exact AllReady.nil
  have s7_8_9:wpAny Tryz.prog .any z1y Q 5 #[true,true,true,true,false,true,true,true,true,true,false,false,false,false] {tmps:=#[.pointer (some ⟨g,0,none⟩),.int .u64 (p:Int),u2,u3,u4,u5,.int .i64 (n:Int),u7,u8,u9,u10,u11,u12,u13,u14,u15,u16,.pointer (some ⟨g,0,none⟩),.pointer (some ⟨g,0,none⟩),.pointer (some ⟨g,0,none⟩),.pointer (some ⟨g,0,none⟩),u21,.int .i64 (n:Int),.int .u64 (p:Int),.int .u64 (q:Int),.agg (RQ q),.slice (some ⟨W.heap.size,0,none⟩) 1 1,u27,u28,u29,u30,u31,u32,u33,u34,u35,u36,u37,u38,u39,u40,u41,u42,u43,u44,u45,u46,u47,u48,u49,u50,u51,u52,u53,u54,u55,u56,u57,u58],defers:=[]} (World.alloc W.drew (.cells (RQ q) 213)):=by
    refine wpAny_ready (rs:=[4]) (by kernel_rfl) (by simp) ?_
    refine AllReady.cons (o:=P3OPSq4) rfl (fun K hK=>z06 (v:=v0) rfl (z07 (hld _ (by first | exact h0 | exact h1))) (hK _ _ s4_7_8_9)) ?_
    exact AllReady.nil
  have s4_7_8:wpAny Tryz.prog .any z1y Q 5 #[true,true,true,true,true,true,true,true,true,false,false,false,false,false] {tmps:=#[.pointer (some ⟨g,0,none⟩),.int .u64 (p:Int),u2,u3,u4,u5,.int .i64 (n:Int),u7,u8,u9,u10,u11,u12,u13,u14,u15,u16,.pointer (some ⟨g,0,none⟩),.pointer (some ⟨g,0,none⟩),.pointer (some ⟨g,0,none⟩),.pointer (some ⟨g,0,none⟩),v0,.int .i64 (n:Int),.int .u64 (p:Int),.int .u64 (q:Int),.agg (RQ q),u26,u27,u28,u29,u30,u31,u32,u33,u34,u35,u36,u37,u38,u39,u40,u41,u42,u43,u44,u45,u46,u47,u48,u49,u50,u51,u52,u53,u54,u55,u56,u57,u58],defers:=[]} W.drew:=by
    refine wpAny_ready (rs:=[9]) (by kernel_rfl) (by simp) ?_
    refine AllReady.cons (o:=P3OPSq9) rfl (fun K hK=>z06 (v:=.slice (some ⟨W.heap.size,0,none⟩) 1 1) rfl (z07 (by rw [List.map_toArray];exact z4Z q _)) (hK _ _ s4_7_8_9)) ?_
    exact AllReady.nil
  have s7_8:wpAny Tryz.prog .any z1y Q 6 #[true,true,true,true,false,true,true,true,true,false,false,false,false,false] {tmps:=#[.pointer (some ⟨g,0,none⟩),.int .u64 (p:Int),u2,u3,u4,u5,.int .i64 (n:Int),u7,u8,u9,u10,u11,u12,u13,u14,u15,u16,.pointer (some ⟨g,0,none⟩),.pointer (some ⟨g,0,none⟩),.pointer (some ⟨g,0,none⟩),.pointer (some ⟨g,0,none⟩),u21,.int .i64 (n:Int),.int .u64 (p:Int),.int .u64 (q:Int),.agg (RQ q),u26,u27,u28,u29,u30,u31,u32,u33,u34,u35,u36,u37,u38,u39,u40,u41,u42,u43,u44,u45,u46,u47,u48,u49,u50,u51,u52,u53,u54,u55,u56,u57,u58],defers:=[]} W.drew:=by
    refine wpAny_ready (rs:=[4,9]) (by kernel_rfl) (by simp) ?_
    refine AllReady.cons (o:=P3OPSq4) rfl (fun K hK=>z06 (v:=v0) rfl (z07 (hld _ (by first | exact h0 | exact h1))) (hK _ _ s4_7_8)) ?_
    refine AllReady.cons (o:=P3OPSq9) rfl (fun K hK=>z06 (v:=.slice (some ⟨W.heap.size,0,none⟩) 1 1) rfl (z07 (by rw [List.map_toArray];exact z4Z q _)) (hK _ _ s7_8_9)) ?_
    exact AllReady.nil
  have s4_7:wpAny Tryz.prog .any z1y Q 6 #[true,true,true,true,true,true,true,true,false,false,false,false,false,false] {tmps:=#[.pointer (some ⟨g,0,none⟩),.int .u64 (p:Int),u2,u3,u4,u5,.int .i64 (n:Int),u7,u8,u9,u10,u11,u12,u13,u14,u15,u16,.pointer (some ⟨g,0,none⟩),.pointer (some ⟨g,0,none⟩),.pointer (some ⟨g,0,none⟩),.pointer (some ⟨g,0,none⟩),v0,.int .i64 (n:Int),.int .u64 (p:Int),.int .u64 (q:Int),u25,u26,u27,u28,u29,u30,u31,u32,u33,u34,u35,u36,u37,u38,u39,u40,u41,u42,u43,u44,u45,u46,u47,u48,u49,u50,u51,u52,u53,u54,u55,u56,u57,u58],defers:=[]} W.drew:=by
    refine wpAny_ready (rs:=[8]) (by kernel_rfl) (by simp) ?_
    refine AllReady.cons (o:=P3OPSq8) rfl (fun K hK=>z06 (v:=.agg (RQ q)) rfl (z07 (by rw [List.map_toArray];exact z6X q _)) (hK _ _ s4_7_8)) ?_
    exact AllReady.nil
  have s7:wpAny Tryz.prog .any z1y Q 7 #[true,true,true,true,false,true,true,true,false,false,false,false,false,false] {tmps:=#[.pointer (some ⟨g,0,none⟩),.int .u64 (p:Int),u2,u3,u4,u5,.int .i64 (n:Int),u7,u8,u9,u10,u11,u12,u13,u14,u15,u16,.pointer (some ⟨g,0,none⟩),.pointer (some ⟨g,0,none⟩),.pointer (some ⟨g,0,none⟩),.pointer (some ⟨g,0,none⟩),u21,.int .i64 (n:Int),.int .u64 (p:Int),.int .u64 (q:Int),u25,u26,u27,u28,u29,u30,u31,u32,u33,u34,u35,u36,u37,u38,u39,u40,u41,u42,u43,u44,u45,u46,u47,u48,u49,u50,u51,u52,u53,u54,u55,u56,u57,u58],defers:=[]} W.drew:=by
    refine wpAny_ready (rs:=[4,8]) (by kernel_rfl) (by simp) ?_
    refine AllReady.cons (o:=P3OPSq4) rfl (fun K hK=>z06 (v:=v0) rfl (z07 (hld _ (by first | exact h0 | exact h1))) (hK _ _ s4_7)) ?_
    refine AllReady.cons (o:=P3OPSq8) rfl (fun K hK=>z06 (v:=.agg (RQ q)) rfl (z07 (by rw [List.map_toArray];exact z6X q _)) (hK _ _ s7_8)) ?_
    exact AllReady.nil
  have s4:wpAny Tryz.prog .any z1y Q 7 #[true,true,true,true,true,true,true,false,false,false,false,false,false,false] {tmps:=#[.pointer (some ⟨g,0,none⟩),.int .u64 (p:Int),u2,u3,u4,u5,.int .i64 (n:Int),u7,u8,u9,u10,u11,u12,u13,u14,u15,u16,.pointer (some ⟨g,0,none⟩),.pointer (some ⟨g,0,none⟩),.pointer (some ⟨g,0,none⟩),.pointer (some ⟨g,0,none⟩),v0,.int .i64 (n:Int),.int .u64 (p:Int),u24,u25,u26,u27,u28,u29,u30,u31,u32,u33,u34,u35,u36,u37,u38,u39,u40,u41,u42,u43,u44,u45,u46,u47,u48,u49,u50,u51,u52,u53,u54,u55,u56,u57,u58],defers:=[]} W.drew:=by
    refine wpAny_ready (rs:=[7]) (by kernel_rfl) (by simp) ?_
    refine AllReady.cons (o:=P3OPSq7) rfl (fun K hK=>?_) ?_
    · rw [if_pos (by rfl)]
      go_simp
      refine (cR (W.drew)).mono ?_
      rintro e w' ⟨rfl,rfl⟩
      exact hK _ _ s4_7
    exact AllReady.nil
  have s:wpAny Tryz.prog .any z1y Q 8 #[true,true,true,true,false,true,true,false,false,false,false,false,false,false] {tmps:=#[.pointer (some ⟨g,0,none⟩),.int .u64 (p:Int),u2,u3,u4,u5,.int .i64 (n:Int),u7,u8,u9,u10,u11,u12,u13,u14,u15,u16,.pointer (some ⟨g,0,none⟩),.pointer (some ⟨g,0,none⟩),.pointer (some ⟨g,0,none⟩),.pointer (some ⟨g,0,none⟩),u21,.int .i64 (n:Int),.int .u64 (p:Int),u24,u25,u26,u27,u28,u29,u30,u31,u32,u33,u34,u35,u36,u37,u38,u39,u40,u41,u42,u43,u44,u45,u46,u47,u48,u49,u50,u51,u52,u53,u54,u55,u56,u57,u58],defers:=[]} W.drew:=by
    refine wpAny_ready (rs:=[4,7]) (by kernel_rfl) (by simp) ?_
    refine AllReady.cons (o:=P3OPSq4) rfl (fun K hK=>z06 (v:=v0) rfl (z07 (hld _ (by first | exact h0 | exact h1))) (hK _ _ s4)) ?_
    refine AllReady.cons (o:=P3OPSq7) rfl (fun K hK=>?_) ?_
    · rw [if_pos (by rfl)]
      go_simp
      refine (cR (W.drew)).mono ?_
      rintro e w' ⟨rfl,rfl⟩
      exact hK _ _ s7
    exact AllReady.nil
  refine wp_region_any (by kernel_rfl) ?_
  refine tkB P3OPSq0 (.pointer (some ⟨g,0,none⟩)) 0 hQ ?_
  simp only [List.set]
  refine tkB P3OPSq1 (.pointer (some ⟨g,0,none⟩)) 1 hQ ?_
  simp only [List.set]
  refine tkB P3OPSq2 (.pointer (some ⟨g,0,none⟩)) 2 hQ ?_
  simp only [List.set]
  refine tkB P3OPSq3 (.pointer (some ⟨g,0,none⟩)) 3 hQ ?_
  simp only [List.set]
  refine tkB P3OPSq5 (.int .i64 (n:Int)) 5 hQ ?_
  simp only [List.set]
  refine tkB P3OPSq6 (.int .u64 (p:Int)) 6 hQ ?_
  simp only [List.set]
  exact s
@[go_sem] def P5OPSq0:Oper:=⟨some 36,.move (.tmp 8),211,"chunk.go:70",#[],none⟩
@[go_sem] def P5OPSq1:Oper:=⟨some 37,.move (.tmp 8),211,"chunk.go:70",#[],none⟩
@[go_sem] def P5OPSq2:Oper:=⟨some 38,.nilCheck (.tmp 37),0,"chunk.go:70",#[⟨1,.data⟩],none⟩
@[go_sem] def P5OPSq3:Oper:=⟨some 39,.fieldAddr 213 (.tmp 38) 2,0,"chunk.go:70",#[⟨2,.data⟩],none⟩
@[go_sem] def P5OPSq4:Oper:=⟨some 40,.load 22 (.tmp 39),22,"chunk.go:70",#[⟨3,.data⟩],none⟩
@[go_sem] def P5OPSq5:Oper:=⟨some 41,.move (.tmp 8),211,"chunk.go:70",#[],none⟩
@[go_sem] def P5OPSq6:Oper:=⟨some 42,.move (.tmp 1),24,"chunk.go:70",#[],none⟩
@[go_sem] def P5OPSq7:Oper:=⟨some 43,.call {callee:=.value (.func 164),args:=#[.tmp 42],argTypes:=#[24]},24,"chunk.go:70",#[⟨6,.data⟩],none⟩
@[go_sem] def P5OPSq8:Oper:=⟨some 44,.call {callee:=.value (.func 163),args:=#[.tmp 41,.tmp 43],argTypes:=#[211,24]},3,"chunk.go:70",#[⟨5,.data⟩,⟨7,.data⟩,⟨7,.chain⟩],none⟩
@[go_sem] def P5OPSq9:Oper:=⟨some 45,.load 35 (.tmp 5),35,"chunk.go:70",#[],none⟩
@[go_sem] def P5OPSq10:Oper:=⟨some 46,.buildSlice 22 1 #[(0,.tmp 45)],22,"chunk.go:70",#[⟨9,.data⟩],none⟩
@[go_sem] def P5OPSq11:Oper:=⟨some 47,.call {callee:=.value (.func 208),args:=#[.tmp 40,.tmp 44,.tmp 46],argTypes:=#[22,3,22]},22,"chunk.go:70",#[⟨4,.data⟩,⟨8,.data⟩,⟨10,.data⟩,⟨8,.chain⟩],none⟩
@[go_sem] def P5OPSq12:Oper:=⟨some 48,.nilCheck (.tmp 36),0,"chunk.go:70",#[⟨0,.data⟩,⟨0,.phase⟩,⟨1,.phase⟩,⟨2,.phase⟩,⟨3,.phase⟩,⟨4,.phase⟩,⟨5,.phase⟩,⟨6,.phase⟩,⟨7,.phase⟩,⟨8,.phase⟩,⟨9,.phase⟩,⟨10,.phase⟩,⟨11,.phase⟩],none⟩
@[go_sem] def P5OPSq13:Oper:=⟨some 49,.fieldAddr 213 (.tmp 48) 2,0,"chunk.go:70",#[⟨12,.data⟩,⟨0,.phase⟩,⟨1,.phase⟩,⟨2,.phase⟩,⟨3,.phase⟩,⟨4,.phase⟩,⟨5,.phase⟩,⟨6,.phase⟩,⟨7,.phase⟩,⟨8,.phase⟩,⟨9,.phase⟩,⟨10,.phase⟩,⟨11,.phase⟩],none⟩
@[go_sem] def P5OPSq14:Oper:=⟨none,.store 22 (.tmp 49) (.tmp 47),0,"chunk.go:70",#[⟨13,.data⟩,⟨11,.data⟩,⟨11,.chain⟩,⟨0,.phase⟩,⟨1,.phase⟩,⟨2,.phase⟩,⟨3,.phase⟩,⟨4,.phase⟩,⟨5,.phase⟩,⟨6,.phase⟩,⟨7,.phase⟩,⟨8,.phase⟩,⟨9,.phase⟩,⟨10,.phase⟩,⟨11,.phase⟩],none⟩
def z0K:Array Oper:=#[P5OPSq0,P5OPSq1,P5OPSq2,P5OPSq3,P5OPSq4,P5OPSq5,P5OPSq6,P5OPSq7,P5OPSq8,P5OPSq9,P5OPSq10,P5OPSq11,P5OPSq12,P5OPSq13,P5OPSq14]
set_option maxHeartbeats 2000000 in
theorem put5 {Q:Exit→Act→World→Prop} (u0 u2 u3 u4 u6 u7 u9 u10 u11 u12 u13 u14 u15 u16 u17 u18 u19 u20 u21 u22 u23 u24 u25 u26 u27 u28 u29 u30 u31 u32 u33 u34 u35 u36 u37 u38 u39 u40 u41 u42 u43 u44 u45 u46 u47 u48 u49 u50 u51 u52 u53 u54 u55 u56 u57 u58:Value) (W:World) (gr i p bt k b5 live:Nat) (hh:Nat→Nat) (v0:Value) (T:Value→World→Prop) (T_one:∀ (X:Value) {w:World},T X w→∃ a m c,X=.slice a m c) (hc1:W.cell? ⟨gr,i*3+1,none⟩=some (.int .u64 (live:Int))) (hc2:W.cell? ⟨gr,i*3+2,none⟩=some v0) (hgr:gr<W.heap.size) (h5:Has W b5 (UARR .u8 32 hh) 35) (cB:∀ w,Calls Tryz.prog 164 #[.int .u64 (p:Int)] w fun e w'=>e=.returned (.int .u64 (bt:Int))∧w=w') (cR:∀ w,w.cell? ⟨gr,i*3+1,none⟩=some (.int .u64 (live:Int))→Calls Tryz.prog 163 #[.pointer (some ⟨gr,i*3,none⟩),.int .u64 (bt:Int)] w fun e w'=>e=.returned (.int .i64 (k:Int))∧w=w') (cI:Calls Tryz.prog 208 #[v0,.int .i64 (k:Int),.slice (some ⟨W.heap.size,0,none⟩) 1 1] (W.drew.alloc (.cells (UARR .u8 32 hh) 35)) fun e w'=>∃ X,e=.returned X∧(T X w'∧∃ y,w'.cell? ⟨gr,i*3+2,none⟩=some y∧w'.frozen? ⟨gr,i*3+2,none⟩=false)) (hQ:∀ c (a:Act) (t:Tmp) (v:Value) w,Q (.panic c) (a.put (some t) v) w→Q (.panic c) a w)
    (h:∀ (X:Value) (w':World),(T X w'∧∃ y,w'.cell? ⟨gr,i*3+2,none⟩=some y∧w'.frozen? ⟨gr,i*3+2,none⟩=false)→Q .normal {tmps:=#[u0,.int .u64 (p:Int),u2,u3,u4,.pointer (some ⟨b5,0,none⟩),u6,u7,.pointer (some ⟨gr,i*3,none⟩),u9,u10,u11,u12,u13,u14,u15,u16,u17,u18,u19,u20,u21,u22,u23,u24,u25,u26,u27,u28,u29,u30,u31,u32,u33,u34,u35,.pointer (some ⟨gr,i*3,none⟩),.pointer (some ⟨gr,i*3,none⟩),.pointer (some ⟨gr,i*3,none⟩),.pointer (some ⟨gr,i*3+2,none⟩),v0,.pointer (some ⟨gr,i*3,none⟩),.int .u64 (p:Int),.int .u64 (bt:Int),.int .i64 (k:Int),.agg (UARR .u8 32 hh),.slice (some ⟨W.heap.size,0,none⟩) 1 1,X,.pointer (some ⟨gr,i*3,none⟩),.pointer (some ⟨gr,i*3+2,none⟩),u50,u51,u52,u53,u54,u55,u56,u57,u58],defers:=[]} (World.setCell w' ⟨gr,i*3+2,none⟩ X)):(Code.region 5 z0K true).wp Tryz.prog Q {tmps:=#[u0,.int .u64 (p:Int),u2,u3,u4,.pointer (some ⟨b5,0,none⟩),u6,u7,.pointer (some ⟨gr,i*3,none⟩),u9,u10,u11,u12,u13,u14,u15,u16,u17,u18,u19,u20,u21,u22,u23,u24,u25,u26,u27,u28,u29,u30,u31,u32,u33,u34,u35,u36,u37,u38,u39,u40,u41,u42,u43,u44,u45,u46,u47,u48,u49,u50,u51,u52,u53,u54,u55,u56,u57,u58],defers:=[]} W:=by
  have hb:Below W.heap.size W (W.drew.alloc (.cells (UARR .u8 32 hh) 35)):=(Below.refl W.heap.size W).drew.alloc (Nat.le_refl _) _
  have d1:W.drew.cell? ⟨gr,i*3+1,none⟩=some (.int .u64 (live:Int)):=hc1
  have d2:W.drew.cell? ⟨gr,i*3+2,none⟩=some v0:=hc2
  have e1:=(hb.cell (p:=⟨gr,i*3+1,none⟩) hgr).trans hc1
  have e2:=(hb.cell (p:=⟨gr,i*3+2,none⟩) hgr).trans hc2
  have f0:Has W.drew b5 (UARR .u8 32 hh) 35:=h5
  have g1:=cR _ d1
  have g2:=cR _ e1
  have kX:∀ (X:Value) (w':World),(T X w'∧∃ y,w'.cell? ⟨gr,i*3+2,none⟩=some y∧w'.frozen? ⟨gr,i*3+2,none⟩=false)→wpAny Tryz.prog .any z0K Q 3 #[true,true,true,true,true,true,true,true,true,true,true,true,false,false,false] {tmps:=#[u0,.int .u64 (p:Int),u2,u3,u4,.pointer (some ⟨b5,0,none⟩),u6,u7,.pointer (some ⟨gr,i*3,none⟩),u9,u10,u11,u12,u13,u14,u15,u16,u17,u18,u19,u20,u21,u22,u23,u24,u25,u26,u27,u28,u29,u30,u31,u32,u33,u34,u35,.pointer (some ⟨gr,i*3,none⟩),.pointer (some ⟨gr,i*3,none⟩),.pointer (some ⟨gr,i*3,none⟩),.pointer (some ⟨gr,i*3+2,none⟩),v0,.pointer (some ⟨gr,i*3,none⟩),.int .u64 (p:Int),.int .u64 (bt:Int),.int .i64 (k:Int),.agg (UARR .u8 32 hh),.slice (some ⟨W.heap.size,0,none⟩) 1 1,X,u48,u49,u50,u51,u52,u53,u54,u55,u56,u57,u58],defers:=[]} w':=fun X w' hX=>by
    have z:wpAny Tryz.prog .any z0K Q 0 #[true,true,true,true,true,true,true,true,true,true,true,true,true,true,true] {tmps:=#[u0,.int .u64 (p:Int),u2,u3,u4,.pointer (some ⟨b5,0,none⟩),u6,u7,.pointer (some ⟨gr,i*3,none⟩),u9,u10,u11,u12,u13,u14,u15,u16,u17,u18,u19,u20,u21,u22,u23,u24,u25,u26,u27,u28,u29,u30,u31,u32,u33,u34,u35,.pointer (some ⟨gr,i*3,none⟩),.pointer (some ⟨gr,i*3,none⟩),.pointer (some ⟨gr,i*3,none⟩),.pointer (some ⟨gr,i*3+2,none⟩),v0,.pointer (some ⟨gr,i*3,none⟩),.int .u64 (p:Int),.int .u64 (bt:Int),.int .i64 (k:Int),.agg (UARR .u8 32 hh),.slice (some ⟨W.heap.size,0,none⟩) 1 1,X,.pointer (some ⟨gr,i*3,none⟩),.pointer (some ⟨gr,i*3+2,none⟩),u50,u51,u52,u53,u54,u55,u56,u57,u58],defers:=[]} (World.setCell w' ⟨gr,i*3+2,none⟩ X):=wpAny_done (by kernel_rfl) (h X w' hX) _
    have z14:wpAny Tryz.prog .any z0K Q 1 #[true,true,true,true,true,true,true,true,true,true,true,true,true,true,false] {tmps:=#[u0,.int .u64 (p:Int),u2,u3,u4,.pointer (some ⟨b5,0,none⟩),u6,u7,.pointer (some ⟨gr,i*3,none⟩),u9,u10,u11,u12,u13,u14,u15,u16,u17,u18,u19,u20,u21,u22,u23,u24,u25,u26,u27,u28,u29,u30,u31,u32,u33,u34,u35,.pointer (some ⟨gr,i*3,none⟩),.pointer (some ⟨gr,i*3,none⟩),.pointer (some ⟨gr,i*3,none⟩),.pointer (some ⟨gr,i*3+2,none⟩),v0,.pointer (some ⟨gr,i*3,none⟩),.int .u64 (p:Int),.int .u64 (bt:Int),.int .i64 (k:Int),.agg (UARR .u8 32 hh),.slice (some ⟨W.heap.size,0,none⟩) 1 1,X,.pointer (some ⟨gr,i*3,none⟩),.pointer (some ⟨gr,i*3+2,none⟩),u50,u51,u52,u53,u54,u55,u56,u57,u58],defers:=[]} w':=by
      refine wpAny_ready (rs:=[14]) (by kernel_rfl) (by simp) ?_
      exact AllReady.cons (o:=P5OPSq14) rfl (fun K hK=>z1a rfl (z1p (by obtain ⟨y,hy,hf⟩:=hX.2;obtain ⟨a,m,c,rfl⟩:=T_one X hX.1;exact z7X hy hf)) (hK _ _ z)) AllReady.nil
    have z13:wpAny Tryz.prog .any z0K Q 2 #[true,true,true,true,true,true,true,true,true,true,true,true,true,false,false] {tmps:=#[u0,.int .u64 (p:Int),u2,u3,u4,.pointer (some ⟨b5,0,none⟩),u6,u7,.pointer (some ⟨gr,i*3,none⟩),u9,u10,u11,u12,u13,u14,u15,u16,u17,u18,u19,u20,u21,u22,u23,u24,u25,u26,u27,u28,u29,u30,u31,u32,u33,u34,u35,.pointer (some ⟨gr,i*3,none⟩),.pointer (some ⟨gr,i*3,none⟩),.pointer (some ⟨gr,i*3,none⟩),.pointer (some ⟨gr,i*3+2,none⟩),v0,.pointer (some ⟨gr,i*3,none⟩),.int .u64 (p:Int),.int .u64 (bt:Int),.int .i64 (k:Int),.agg (UARR .u8 32 hh),.slice (some ⟨W.heap.size,0,none⟩) 1 1,X,.pointer (some ⟨gr,i*3,none⟩),u49,u50,u51,u52,u53,u54,u55,u56,u57,u58],defers:=[]} w':=by
      refine tkB P5OPSq13 (.pointer (some ⟨gr,i*3+2,none⟩)) 13 hQ ?_
      simp only [List.set]
      exact z14
    have z12:wpAny Tryz.prog .any z0K Q 3 #[true,true,true,true,true,true,true,true,true,true,true,true,false,false,false] {tmps:=#[u0,.int .u64 (p:Int),u2,u3,u4,.pointer (some ⟨b5,0,none⟩),u6,u7,.pointer (some ⟨gr,i*3,none⟩),u9,u10,u11,u12,u13,u14,u15,u16,u17,u18,u19,u20,u21,u22,u23,u24,u25,u26,u27,u28,u29,u30,u31,u32,u33,u34,u35,.pointer (some ⟨gr,i*3,none⟩),.pointer (some ⟨gr,i*3,none⟩),.pointer (some ⟨gr,i*3,none⟩),.pointer (some ⟨gr,i*3+2,none⟩),v0,.pointer (some ⟨gr,i*3,none⟩),.int .u64 (p:Int),.int .u64 (bt:Int),.int .i64 (k:Int),.agg (UARR .u8 32 hh),.slice (some ⟨W.heap.size,0,none⟩) 1 1,X,u48,u49,u50,u51,u52,u53,u54,u55,u56,u57,u58],defers:=[]} w':=by
      refine tkB P5OPSq12 (.pointer (some ⟨gr,i*3,none⟩)) 12 hQ ?_
      simp only [List.set]
      exact z13
    exact z12
  have s4_7_8_9_10:wpAny Tryz.prog .any z0K Q 4 #[true,true,true,true,true,true,true,true,true,true,true,false,false,false,false] {tmps:=#[u0,.int .u64 (p:Int),u2,u3,u4,.pointer (some ⟨b5,0,none⟩),u6,u7,.pointer (some ⟨gr,i*3,none⟩),u9,u10,u11,u12,u13,u14,u15,u16,u17,u18,u19,u20,u21,u22,u23,u24,u25,u26,u27,u28,u29,u30,u31,u32,u33,u34,u35,.pointer (some ⟨gr,i*3,none⟩),.pointer (some ⟨gr,i*3,none⟩),.pointer (some ⟨gr,i*3,none⟩),.pointer (some ⟨gr,i*3+2,none⟩),v0,.pointer (some ⟨gr,i*3,none⟩),.int .u64 (p:Int),.int .u64 (bt:Int),.int .i64 (k:Int),.agg (UARR .u8 32 hh),.slice (some ⟨W.heap.size,0,none⟩) 1 1,u47,u48,u49,u50,u51,u52,u53,u54,u55,u56,u57,u58],defers:=[]} (World.alloc W.drew (.cells (UARR .u8 32 hh) 35)):=by
    refine wpAny_ready (rs:=[11]) (by kernel_rfl) (by simp) ?_
    refine AllReady.cons (o:=P5OPSq11) rfl (fun K hK=>?_) ?_
    · rw [if_pos (by rfl)]
      go_simp
      refine (cI).mono ?_
      rintro e w' ⟨X,rfl,hX⟩
      exact hK _ _ (kX X w' hX)
    exact AllReady.nil
  have s7_8_9_10:wpAny Tryz.prog .any z0K Q 5 #[true,true,true,true,false,true,true,true,true,true,true,false,false,false,false] {tmps:=#[u0,.int .u64 (p:Int),u2,u3,u4,.pointer (some ⟨b5,0,none⟩),u6,u7,.pointer (some ⟨gr,i*3,none⟩),u9,u10,u11,u12,u13,u14,u15,u16,u17,u18,u19,u20,u21,u22,u23,u24,u25,u26,u27,u28,u29,u30,u31,u32,u33,u34,u35,.pointer (some ⟨gr,i*3,none⟩),.pointer (some ⟨gr,i*3,none⟩),.pointer (some ⟨gr,i*3,none⟩),.pointer (some ⟨gr,i*3+2,none⟩),u40,.pointer (some ⟨gr,i*3,none⟩),.int .u64 (p:Int),.int .u64 (bt:Int),.int .i64 (k:Int),.agg (UARR .u8 32 hh),.slice (some ⟨W.heap.size,0,none⟩) 1 1,u47,u48,u49,u50,u51,u52,u53,u54,u55,u56,u57,u58],defers:=[]} (World.alloc W.drew (.cells (UARR .u8 32 hh) 35)):=by
    refine wpAny_ready (rs:=[4]) (by kernel_rfl) (by simp) ?_
    refine AllReady.cons (o:=P5OPSq4) rfl (fun K hK=>z06 (v:=v0) rfl (z07 (z0Q (by first | exact d2 | exact e2))) (hK _ _ s4_7_8_9_10)) ?_
    exact AllReady.nil
  have s4_7_9_10:wpAny Tryz.prog .any z0K Q 5 #[true,true,true,true,true,true,true,true,false,true,true,false,false,false,false] {tmps:=#[u0,.int .u64 (p:Int),u2,u3,u4,.pointer (some ⟨b5,0,none⟩),u6,u7,.pointer (some ⟨gr,i*3,none⟩),u9,u10,u11,u12,u13,u14,u15,u16,u17,u18,u19,u20,u21,u22,u23,u24,u25,u26,u27,u28,u29,u30,u31,u32,u33,u34,u35,.pointer (some ⟨gr,i*3,none⟩),.pointer (some ⟨gr,i*3,none⟩),.pointer (some ⟨gr,i*3,none⟩),.pointer (some ⟨gr,i*3+2,none⟩),v0,.pointer (some ⟨gr,i*3,none⟩),.int .u64 (p:Int),.int .u64 (bt:Int),u44,.agg (UARR .u8 32 hh),.slice (some ⟨W.heap.size,0,none⟩) 1 1,u47,u48,u49,u50,u51,u52,u53,u54,u55,u56,u57,u58],defers:=[]} (World.alloc W.drew (.cells (UARR .u8 32 hh) 35)):=by
    refine wpAny_ready (rs:=[8]) (by kernel_rfl) (by simp) ?_
    refine AllReady.cons (o:=P5OPSq8) rfl (fun K hK=>?_) ?_
    · rw [if_pos (by rfl)]
      go_simp
      refine ((by first | exact g1 | exact g2:Calls Tryz.prog 163 #[.pointer (some ⟨gr,i*3,none⟩),.int .u64 (bt:Int)] ((World.alloc W.drew (.cells (UARR .u8 32 hh) 35))) _)).mono ?_
      rintro e w' ⟨rfl,rfl⟩
      exact hK _ _ s4_7_8_9_10
    exact AllReady.nil
  have s4_7_8_9:wpAny Tryz.prog .any z0K Q 5 #[true,true,true,true,true,true,true,true,true,true,false,false,false,false,false] {tmps:=#[u0,.int .u64 (p:Int),u2,u3,u4,.pointer (some ⟨b5,0,none⟩),u6,u7,.pointer (some ⟨gr,i*3,none⟩),u9,u10,u11,u12,u13,u14,u15,u16,u17,u18,u19,u20,u21,u22,u23,u24,u25,u26,u27,u28,u29,u30,u31,u32,u33,u34,u35,.pointer (some ⟨gr,i*3,none⟩),.pointer (some ⟨gr,i*3,none⟩),.pointer (some ⟨gr,i*3,none⟩),.pointer (some ⟨gr,i*3+2,none⟩),v0,.pointer (some ⟨gr,i*3,none⟩),.int .u64 (p:Int),.int .u64 (bt:Int),.int .i64 (k:Int),.agg (UARR .u8 32 hh),u46,u47,u48,u49,u50,u51,u52,u53,u54,u55,u56,u57,u58],defers:=[]} W.drew:=by
    refine wpAny_ready (rs:=[10]) (by kernel_rfl) (by simp) ?_
    refine AllReady.cons (o:=P5OPSq10) rfl (fun K hK=>z06 (v:=.slice (some ⟨W.heap.size,0,none⟩) 1 1) rfl (z07 (by rw [List.map_toArray];exact z1i hh _)) (hK _ _ s4_7_8_9_10)) ?_
    exact AllReady.nil
  have s7_9_10:wpAny Tryz.prog .any z0K Q 6 #[true,true,true,true,false,true,true,true,false,true,true,false,false,false,false] {tmps:=#[u0,.int .u64 (p:Int),u2,u3,u4,.pointer (some ⟨b5,0,none⟩),u6,u7,.pointer (some ⟨gr,i*3,none⟩),u9,u10,u11,u12,u13,u14,u15,u16,u17,u18,u19,u20,u21,u22,u23,u24,u25,u26,u27,u28,u29,u30,u31,u32,u33,u34,u35,.pointer (some ⟨gr,i*3,none⟩),.pointer (some ⟨gr,i*3,none⟩),.pointer (some ⟨gr,i*3,none⟩),.pointer (some ⟨gr,i*3+2,none⟩),u40,.pointer (some ⟨gr,i*3,none⟩),.int .u64 (p:Int),.int .u64 (bt:Int),u44,.agg (UARR .u8 32 hh),.slice (some ⟨W.heap.size,0,none⟩) 1 1,u47,u48,u49,u50,u51,u52,u53,u54,u55,u56,u57,u58],defers:=[]} (World.alloc W.drew (.cells (UARR .u8 32 hh) 35)):=by
    refine wpAny_ready (rs:=[4,8]) (by kernel_rfl) (by simp) ?_
    refine AllReady.cons (o:=P5OPSq4) rfl (fun K hK=>z06 (v:=v0) rfl (z07 (z0Q (by first | exact d2 | exact e2))) (hK _ _ s4_7_9_10)) ?_
    refine AllReady.cons (o:=P5OPSq8) rfl (fun K hK=>?_) ?_
    · rw [if_pos (by rfl)]
      go_simp
      refine ((by first | exact g1 | exact g2:Calls Tryz.prog 163 #[.pointer (some ⟨gr,i*3,none⟩),.int .u64 (bt:Int)] ((World.alloc W.drew (.cells (UARR .u8 32 hh) 35))) _)).mono ?_
      rintro e w' ⟨rfl,rfl⟩
      exact hK _ _ s7_8_9_10
    exact AllReady.nil
  have s7_8_9:wpAny Tryz.prog .any z0K Q 6 #[true,true,true,true,false,true,true,true,true,true,false,false,false,false,false] {tmps:=#[u0,.int .u64 (p:Int),u2,u3,u4,.pointer (some ⟨b5,0,none⟩),u6,u7,.pointer (some ⟨gr,i*3,none⟩),u9,u10,u11,u12,u13,u14,u15,u16,u17,u18,u19,u20,u21,u22,u23,u24,u25,u26,u27,u28,u29,u30,u31,u32,u33,u34,u35,.pointer (some ⟨gr,i*3,none⟩),.pointer (some ⟨gr,i*3,none⟩),.pointer (some ⟨gr,i*3,none⟩),.pointer (some ⟨gr,i*3+2,none⟩),u40,.pointer (some ⟨gr,i*3,none⟩),.int .u64 (p:Int),.int .u64 (bt:Int),.int .i64 (k:Int),.agg (UARR .u8 32 hh),u46,u47,u48,u49,u50,u51,u52,u53,u54,u55,u56,u57,u58],defers:=[]} W.drew:=by
    refine wpAny_ready (rs:=[4,10]) (by kernel_rfl) (by simp) ?_
    refine AllReady.cons (o:=P5OPSq4) rfl (fun K hK=>z06 (v:=v0) rfl (z07 (z0Q (by first | exact d2 | exact e2))) (hK _ _ s4_7_8_9)) ?_
    refine AllReady.cons (o:=P5OPSq10) rfl (fun K hK=>z06 (v:=.slice (some ⟨W.heap.size,0,none⟩) 1 1) rfl (z07 (by rw [List.map_toArray];exact z1i hh _)) (hK _ _ s7_8_9_10)) ?_
    exact AllReady.nil
  have s4_9_10:wpAny Tryz.prog .any z0K Q 6 #[true,true,true,true,true,true,true,false,false,true,true,false,false,false,false] {tmps:=#[u0,.int .u64 (p:Int),u2,u3,u4,.pointer (some ⟨b5,0,none⟩),u6,u7,.pointer (some ⟨gr,i*3,none⟩),u9,u10,u11,u12,u13,u14,u15,u16,u17,u18,u19,u20,u21,u22,u23,u24,u25,u26,u27,u28,u29,u30,u31,u32,u33,u34,u35,.pointer (some ⟨gr,i*3,none⟩),.pointer (some ⟨gr,i*3,none⟩),.pointer (some ⟨gr,i*3,none⟩),.pointer (some ⟨gr,i*3+2,none⟩),v0,.pointer (some ⟨gr,i*3,none⟩),.int .u64 (p:Int),u43,u44,.agg (UARR .u8 32 hh),.slice (some ⟨W.heap.size,0,none⟩) 1 1,u47,u48,u49,u50,u51,u52,u53,u54,u55,u56,u57,u58],defers:=[]} (World.alloc W.drew (.cells (UARR .u8 32 hh) 35)):=by
    refine wpAny_ready (rs:=[7]) (by kernel_rfl) (by simp) ?_
    refine AllReady.cons (o:=P5OPSq7) rfl (fun K hK=>?_) ?_
    · rw [if_pos (by rfl)]
      go_simp
      refine (cB ((World.alloc W.drew (.cells (UARR .u8 32 hh) 35)))).mono ?_
      rintro e w' ⟨rfl,rfl⟩
      exact hK _ _ s4_7_9_10
    exact AllReady.nil
  have s4_7_9:wpAny Tryz.prog .any z0K Q 6 #[true,true,true,true,true,true,true,true,false,true,false,false,false,false,false] {tmps:=#[u0,.int .u64 (p:Int),u2,u3,u4,.pointer (some ⟨b5,0,none⟩),u6,u7,.pointer (some ⟨gr,i*3,none⟩),u9,u10,u11,u12,u13,u14,u15,u16,u17,u18,u19,u20,u21,u22,u23,u24,u25,u26,u27,u28,u29,u30,u31,u32,u33,u34,u35,.pointer (some ⟨gr,i*3,none⟩),.pointer (some ⟨gr,i*3,none⟩),.pointer (some ⟨gr,i*3,none⟩),.pointer (some ⟨gr,i*3+2,none⟩),v0,.pointer (some ⟨gr,i*3,none⟩),.int .u64 (p:Int),.int .u64 (bt:Int),u44,.agg (UARR .u8 32 hh),u46,u47,u48,u49,u50,u51,u52,u53,u54,u55,u56,u57,u58],defers:=[]} W.drew:=by
    refine wpAny_ready (rs:=[8,10]) (by kernel_rfl) (by simp) ?_
    refine AllReady.cons (o:=P5OPSq8) rfl (fun K hK=>?_) ?_
    · rw [if_pos (by rfl)]
      go_simp
      refine ((by first | exact g1 | exact g2:Calls Tryz.prog 163 #[.pointer (some ⟨gr,i*3,none⟩),.int .u64 (bt:Int)] (W.drew) _)).mono ?_
      rintro e w' ⟨rfl,rfl⟩
      exact hK _ _ s4_7_8_9
    refine AllReady.cons (o:=P5OPSq10) rfl (fun K hK=>z06 (v:=.slice (some ⟨W.heap.size,0,none⟩) 1 1) rfl (z07 (by rw [List.map_toArray];exact z1i hh _)) (hK _ _ s4_7_9_10)) ?_
    exact AllReady.nil
  have s4_7_8:wpAny Tryz.prog .any z0K Q 6 #[true,true,true,true,true,true,true,true,true,false,false,false,false,false,false] {tmps:=#[u0,.int .u64 (p:Int),u2,u3,u4,.pointer (some ⟨b5,0,none⟩),u6,u7,.pointer (some ⟨gr,i*3,none⟩),u9,u10,u11,u12,u13,u14,u15,u16,u17,u18,u19,u20,u21,u22,u23,u24,u25,u26,u27,u28,u29,u30,u31,u32,u33,u34,u35,.pointer (some ⟨gr,i*3,none⟩),.pointer (some ⟨gr,i*3,none⟩),.pointer (some ⟨gr,i*3,none⟩),.pointer (some ⟨gr,i*3+2,none⟩),v0,.pointer (some ⟨gr,i*3,none⟩),.int .u64 (p:Int),.int .u64 (bt:Int),.int .i64 (k:Int),u45,u46,u47,u48,u49,u50,u51,u52,u53,u54,u55,u56,u57,u58],defers:=[]} W.drew:=by
    refine wpAny_ready (rs:=[9]) (by kernel_rfl) (by simp) ?_
    refine AllReady.cons (o:=P5OPSq9) rfl (fun K hK=>z06 (v:=.agg (UARR .u8 32 hh)) rfl (z07 (z2c (by first | exact f0 | exact f0.alloc _))) (hK _ _ s4_7_8_9)) ?_
    exact AllReady.nil
  have s9_10:wpAny Tryz.prog .any z0K Q 7 #[true,true,true,true,false,true,true,false,false,true,true,false,false,false,false] {tmps:=#[u0,.int .u64 (p:Int),u2,u3,u4,.pointer (some ⟨b5,0,none⟩),u6,u7,.pointer (some ⟨gr,i*3,none⟩),u9,u10,u11,u12,u13,u14,u15,u16,u17,u18,u19,u20,u21,u22,u23,u24,u25,u26,u27,u28,u29,u30,u31,u32,u33,u34,u35,.pointer (some ⟨gr,i*3,none⟩),.pointer (some ⟨gr,i*3,none⟩),.pointer (some ⟨gr,i*3,none⟩),.pointer (some ⟨gr,i*3+2,none⟩),u40,.pointer (some ⟨gr,i*3,none⟩),.int .u64 (p:Int),u43,u44,.agg (UARR .u8 32 hh),.slice (some ⟨W.heap.size,0,none⟩) 1 1,u47,u48,u49,u50,u51,u52,u53,u54,u55,u56,u57,u58],defers:=[]} (World.alloc W.drew (.cells (UARR .u8 32 hh) 35)):=by
    refine wpAny_ready (rs:=[4,7]) (by kernel_rfl) (by simp) ?_
    refine AllReady.cons (o:=P5OPSq4) rfl (fun K hK=>z06 (v:=v0) rfl (z07 (z0Q (by first | exact d2 | exact e2))) (hK _ _ s4_9_10)) ?_
    refine AllReady.cons (o:=P5OPSq7) rfl (fun K hK=>?_) ?_
    · rw [if_pos (by rfl)]
      go_simp
      refine (cB ((World.alloc W.drew (.cells (UARR .u8 32 hh) 35)))).mono ?_
      rintro e w' ⟨rfl,rfl⟩
      exact hK _ _ s7_9_10
    exact AllReady.nil
  have s7_9:wpAny Tryz.prog .any z0K Q 7 #[true,true,true,true,false,true,true,true,false,true,false,false,false,false,false] {tmps:=#[u0,.int .u64 (p:Int),u2,u3,u4,.pointer (some ⟨b5,0,none⟩),u6,u7,.pointer (some ⟨gr,i*3,none⟩),u9,u10,u11,u12,u13,u14,u15,u16,u17,u18,u19,u20,u21,u22,u23,u24,u25,u26,u27,u28,u29,u30,u31,u32,u33,u34,u35,.pointer (some ⟨gr,i*3,none⟩),.pointer (some ⟨gr,i*3,none⟩),.pointer (some ⟨gr,i*3,none⟩),.pointer (some ⟨gr,i*3+2,none⟩),u40,.pointer (some ⟨gr,i*3,none⟩),.int .u64 (p:Int),.int .u64 (bt:Int),u44,.agg (UARR .u8 32 hh),u46,u47,u48,u49,u50,u51,u52,u53,u54,u55,u56,u57,u58],defers:=[]} W.drew:=by
    refine wpAny_ready (rs:=[4,8,10]) (by kernel_rfl) (by simp) ?_
    refine AllReady.cons (o:=P5OPSq4) rfl (fun K hK=>z06 (v:=v0) rfl (z07 (z0Q (by first | exact d2 | exact e2))) (hK _ _ s4_7_9)) ?_
    refine AllReady.cons (o:=P5OPSq8) rfl (fun K hK=>?_) ?_
    · rw [if_pos (by rfl)]
      go_simp
      refine ((by first | exact g1 | exact g2:Calls Tryz.prog 163 #[.pointer (some ⟨gr,i*3,none⟩),.int .u64 (bt:Int)] (W.drew) _)).mono ?_
      rintro e w' ⟨rfl,rfl⟩
      exact hK _ _ s7_8_9
    refine AllReady.cons (o:=P5OPSq10) rfl (fun K hK=>z06 (v:=.slice (some ⟨W.heap.size,0,none⟩) 1 1) rfl (z07 (by rw [List.map_toArray];exact z1i hh _)) (hK _ _ s7_9_10)) ?_
    exact AllReady.nil
  have s7_8:wpAny Tryz.prog .any z0K Q 7 #[true,true,true,true,false,true,true,true,true,false,false,false,false,false,false] {tmps:=#[u0,.int .u64 (p:Int),u2,u3,u4,.pointer (some ⟨b5,0,none⟩),u6,u7,.pointer (some ⟨gr,i*3,none⟩),u9,u10,u11,u12,u13,u14,u15,u16,u17,u18,u19,u20,u21,u22,u23,u24,u25,u26,u27,u28,u29,u30,u31,u32,u33,u34,u35,.pointer (some ⟨gr,i*3,none⟩),.pointer (some ⟨gr,i*3,none⟩),.pointer (some ⟨gr,i*3,none⟩),.pointer (some ⟨gr,i*3+2,none⟩),u40,.pointer (some ⟨gr,i*3,none⟩),.int .u64 (p:Int),.int .u64 (bt:Int),.int .i64 (k:Int),u45,u46,u47,u48,u49,u50,u51,u52,u53,u54,u55,u56,u57,u58],defers:=[]} W.drew:=by
    refine wpAny_ready (rs:=[4,9]) (by kernel_rfl) (by simp) ?_
    refine AllReady.cons (o:=P5OPSq4) rfl (fun K hK=>z06 (v:=v0) rfl (z07 (z0Q (by first | exact d2 | exact e2))) (hK _ _ s4_7_8)) ?_
    refine AllReady.cons (o:=P5OPSq9) rfl (fun K hK=>z06 (v:=.agg (UARR .u8 32 hh)) rfl (z07 (z2c (by first | exact f0 | exact f0.alloc _))) (hK _ _ s7_8_9)) ?_
    exact AllReady.nil
  have s4_9:wpAny Tryz.prog .any z0K Q 7 #[true,true,true,true,true,true,true,false,false,true,false,false,false,false,false] {tmps:=#[u0,.int .u64 (p:Int),u2,u3,u4,.pointer (some ⟨b5,0,none⟩),u6,u7,.pointer (some ⟨gr,i*3,none⟩),u9,u10,u11,u12,u13,u14,u15,u16,u17,u18,u19,u20,u21,u22,u23,u24,u25,u26,u27,u28,u29,u30,u31,u32,u33,u34,u35,.pointer (some ⟨gr,i*3,none⟩),.pointer (some ⟨gr,i*3,none⟩),.pointer (some ⟨gr,i*3,none⟩),.pointer (some ⟨gr,i*3+2,none⟩),v0,.pointer (some ⟨gr,i*3,none⟩),.int .u64 (p:Int),u43,u44,.agg (UARR .u8 32 hh),u46,u47,u48,u49,u50,u51,u52,u53,u54,u55,u56,u57,u58],defers:=[]} W.drew:=by
    refine wpAny_ready (rs:=[7,10]) (by kernel_rfl) (by simp) ?_
    refine AllReady.cons (o:=P5OPSq7) rfl (fun K hK=>?_) ?_
    · rw [if_pos (by rfl)]
      go_simp
      refine (cB (W.drew)).mono ?_
      rintro e w' ⟨rfl,rfl⟩
      exact hK _ _ s4_7_9
    refine AllReady.cons (o:=P5OPSq10) rfl (fun K hK=>z06 (v:=.slice (some ⟨W.heap.size,0,none⟩) 1 1) rfl (z07 (by rw [List.map_toArray];exact z1i hh _)) (hK _ _ s4_9_10)) ?_
    exact AllReady.nil
  have s4_7:wpAny Tryz.prog .any z0K Q 7 #[true,true,true,true,true,true,true,true,false,false,false,false,false,false,false] {tmps:=#[u0,.int .u64 (p:Int),u2,u3,u4,.pointer (some ⟨b5,0,none⟩),u6,u7,.pointer (some ⟨gr,i*3,none⟩),u9,u10,u11,u12,u13,u14,u15,u16,u17,u18,u19,u20,u21,u22,u23,u24,u25,u26,u27,u28,u29,u30,u31,u32,u33,u34,u35,.pointer (some ⟨gr,i*3,none⟩),.pointer (some ⟨gr,i*3,none⟩),.pointer (some ⟨gr,i*3,none⟩),.pointer (some ⟨gr,i*3+2,none⟩),v0,.pointer (some ⟨gr,i*3,none⟩),.int .u64 (p:Int),.int .u64 (bt:Int),u44,u45,u46,u47,u48,u49,u50,u51,u52,u53,u54,u55,u56,u57,u58],defers:=[]} W.drew:=by
    refine wpAny_ready (rs:=[8,9]) (by kernel_rfl) (by simp) ?_
    refine AllReady.cons (o:=P5OPSq8) rfl (fun K hK=>?_) ?_
    · rw [if_pos (by rfl)]
      go_simp
      refine ((by first | exact g1 | exact g2:Calls Tryz.prog 163 #[.pointer (some ⟨gr,i*3,none⟩),.int .u64 (bt:Int)] (W.drew) _)).mono ?_
      rintro e w' ⟨rfl,rfl⟩
      exact hK _ _ s4_7_8
    refine AllReady.cons (o:=P5OPSq9) rfl (fun K hK=>z06 (v:=.agg (UARR .u8 32 hh)) rfl (z07 (z2c (by first | exact f0 | exact f0.alloc _))) (hK _ _ s4_7_9)) ?_
    exact AllReady.nil
  have s9:wpAny Tryz.prog .any z0K Q 8 #[true,true,true,true,false,true,true,false,false,true,false,false,false,false,false] {tmps:=#[u0,.int .u64 (p:Int),u2,u3,u4,.pointer (some ⟨b5,0,none⟩),u6,u7,.pointer (some ⟨gr,i*3,none⟩),u9,u10,u11,u12,u13,u14,u15,u16,u17,u18,u19,u20,u21,u22,u23,u24,u25,u26,u27,u28,u29,u30,u31,u32,u33,u34,u35,.pointer (some ⟨gr,i*3,none⟩),.pointer (some ⟨gr,i*3,none⟩),.pointer (some ⟨gr,i*3,none⟩),.pointer (some ⟨gr,i*3+2,none⟩),u40,.pointer (some ⟨gr,i*3,none⟩),.int .u64 (p:Int),u43,u44,.agg (UARR .u8 32 hh),u46,u47,u48,u49,u50,u51,u52,u53,u54,u55,u56,u57,u58],defers:=[]} W.drew:=by
    refine wpAny_ready (rs:=[4,7,10]) (by kernel_rfl) (by simp) ?_
    refine AllReady.cons (o:=P5OPSq4) rfl (fun K hK=>z06 (v:=v0) rfl (z07 (z0Q (by first | exact d2 | exact e2))) (hK _ _ s4_9)) ?_
    refine AllReady.cons (o:=P5OPSq7) rfl (fun K hK=>?_) ?_
    · rw [if_pos (by rfl)]
      go_simp
      refine (cB (W.drew)).mono ?_
      rintro e w' ⟨rfl,rfl⟩
      exact hK _ _ s7_9
    refine AllReady.cons (o:=P5OPSq10) rfl (fun K hK=>z06 (v:=.slice (some ⟨W.heap.size,0,none⟩) 1 1) rfl (z07 (by rw [List.map_toArray];exact z1i hh _)) (hK _ _ s9_10)) ?_
    exact AllReady.nil
  have s7:wpAny Tryz.prog .any z0K Q 8 #[true,true,true,true,false,true,true,true,false,false,false,false,false,false,false] {tmps:=#[u0,.int .u64 (p:Int),u2,u3,u4,.pointer (some ⟨b5,0,none⟩),u6,u7,.pointer (some ⟨gr,i*3,none⟩),u9,u10,u11,u12,u13,u14,u15,u16,u17,u18,u19,u20,u21,u22,u23,u24,u25,u26,u27,u28,u29,u30,u31,u32,u33,u34,u35,.pointer (some ⟨gr,i*3,none⟩),.pointer (some ⟨gr,i*3,none⟩),.pointer (some ⟨gr,i*3,none⟩),.pointer (some ⟨gr,i*3+2,none⟩),u40,.pointer (some ⟨gr,i*3,none⟩),.int .u64 (p:Int),.int .u64 (bt:Int),u44,u45,u46,u47,u48,u49,u50,u51,u52,u53,u54,u55,u56,u57,u58],defers:=[]} W.drew:=by
    refine wpAny_ready (rs:=[4,8,9]) (by kernel_rfl) (by simp) ?_
    refine AllReady.cons (o:=P5OPSq4) rfl (fun K hK=>z06 (v:=v0) rfl (z07 (z0Q (by first | exact d2 | exact e2))) (hK _ _ s4_7)) ?_
    refine AllReady.cons (o:=P5OPSq8) rfl (fun K hK=>?_) ?_
    · rw [if_pos (by rfl)]
      go_simp
      refine ((by first | exact g1 | exact g2:Calls Tryz.prog 163 #[.pointer (some ⟨gr,i*3,none⟩),.int .u64 (bt:Int)] (W.drew) _)).mono ?_
      rintro e w' ⟨rfl,rfl⟩
      exact hK _ _ s7_8
    refine AllReady.cons (o:=P5OPSq9) rfl (fun K hK=>z06 (v:=.agg (UARR .u8 32 hh)) rfl (z07 (z2c (by first | exact f0 | exact f0.alloc _))) (hK _ _ s7_9)) ?_
    exact AllReady.nil
  have s4:wpAny Tryz.prog .any z0K Q 8 #[true,true,true,true,true,true,true,false,false,false,false,false,false,false,false] {tmps:=#[u0,.int .u64 (p:Int),u2,u3,u4,.pointer (some ⟨b5,0,none⟩),u6,u7,.pointer (some ⟨gr,i*3,none⟩),u9,u10,u11,u12,u13,u14,u15,u16,u17,u18,u19,u20,u21,u22,u23,u24,u25,u26,u27,u28,u29,u30,u31,u32,u33,u34,u35,.pointer (some ⟨gr,i*3,none⟩),.pointer (some ⟨gr,i*3,none⟩),.pointer (some ⟨gr,i*3,none⟩),.pointer (some ⟨gr,i*3+2,none⟩),v0,.pointer (some ⟨gr,i*3,none⟩),.int .u64 (p:Int),u43,u44,u45,u46,u47,u48,u49,u50,u51,u52,u53,u54,u55,u56,u57,u58],defers:=[]} W.drew:=by
    refine wpAny_ready (rs:=[7,9]) (by kernel_rfl) (by simp) ?_
    refine AllReady.cons (o:=P5OPSq7) rfl (fun K hK=>?_) ?_
    · rw [if_pos (by rfl)]
      go_simp
      refine (cB (W.drew)).mono ?_
      rintro e w' ⟨rfl,rfl⟩
      exact hK _ _ s4_7
    refine AllReady.cons (o:=P5OPSq9) rfl (fun K hK=>z06 (v:=.agg (UARR .u8 32 hh)) rfl (z07 (z2c (by first | exact f0 | exact f0.alloc _))) (hK _ _ s4_9)) ?_
    exact AllReady.nil
  have s:wpAny Tryz.prog .any z0K Q 9 #[true,true,true,true,false,true,true,false,false,false,false,false,false,false,false] {tmps:=#[u0,.int .u64 (p:Int),u2,u3,u4,.pointer (some ⟨b5,0,none⟩),u6,u7,.pointer (some ⟨gr,i*3,none⟩),u9,u10,u11,u12,u13,u14,u15,u16,u17,u18,u19,u20,u21,u22,u23,u24,u25,u26,u27,u28,u29,u30,u31,u32,u33,u34,u35,.pointer (some ⟨gr,i*3,none⟩),.pointer (some ⟨gr,i*3,none⟩),.pointer (some ⟨gr,i*3,none⟩),.pointer (some ⟨gr,i*3+2,none⟩),u40,.pointer (some ⟨gr,i*3,none⟩),.int .u64 (p:Int),u43,u44,u45,u46,u47,u48,u49,u50,u51,u52,u53,u54,u55,u56,u57,u58],defers:=[]} W.drew:=by
    refine wpAny_ready (rs:=[4,7,9]) (by kernel_rfl) (by simp) ?_
    refine AllReady.cons (o:=P5OPSq4) rfl (fun K hK=>z06 (v:=v0) rfl (z07 (z0Q (by first | exact d2 | exact e2))) (hK _ _ s4)) ?_
    refine AllReady.cons (o:=P5OPSq7) rfl (fun K hK=>?_) ?_
    · rw [if_pos (by rfl)]
      go_simp
      refine (cB (W.drew)).mono ?_
      rintro e w' ⟨rfl,rfl⟩
      exact hK _ _ s7
    refine AllReady.cons (o:=P5OPSq9) rfl (fun K hK=>z06 (v:=.agg (UARR .u8 32 hh)) rfl (z07 (z2c (by first | exact f0 | exact f0.alloc _))) (hK _ _ s9)) ?_
    exact AllReady.nil
  refine wp_region_any (by kernel_rfl) ?_
  refine tkB P5OPSq0 (.pointer (some ⟨gr,i*3,none⟩)) 0 hQ ?_
  simp only [List.set]
  refine tkB P5OPSq1 (.pointer (some ⟨gr,i*3,none⟩)) 1 hQ ?_
  simp only [List.set]
  refine tkB P5OPSq2 (.pointer (some ⟨gr,i*3,none⟩)) 2 hQ ?_
  simp only [List.set]
  refine tkB P5OPSq3 (.pointer (some ⟨gr,i*3+2,none⟩)) 3 hQ ?_
  simp only [List.set]
  refine tkB P5OPSq5 (.pointer (some ⟨gr,i*3,none⟩)) 5 hQ ?_
  simp only [List.set]
  refine tkB P5OPSq6 (.int .u64 (p:Int)) 6 hQ ?_
  simp only [List.set]
  exact s
@[go_sem] def P6OPSq0:Oper:=⟨some 50,.move (.tmp 8),211,"chunk.go:71",#[],none⟩
@[go_sem] def P6OPSq1:Oper:=⟨some 51,.nilCheck (.tmp 50),0,"chunk.go:71",#[⟨0,.data⟩],none⟩
@[go_sem] def P6OPSq2:Oper:=⟨some 52,.fieldAddr 213 (.tmp 51) 1,0,"chunk.go:71",#[⟨1,.data⟩],none⟩
@[go_sem] def P6OPSq3:Oper:=⟨some 53,.load 24 (.tmp 52),24,"chunk.go:71",#[⟨2,.data⟩],none⟩
@[go_sem] def P6OPSq4:Oper:=⟨some 54,.move (.tmp 1),24,"chunk.go:71",#[],none⟩
@[go_sem] def P6OPSq5:Oper:=⟨some 55,.call {callee:=.value (.func 164),args:=#[.tmp 54],argTypes:=#[24]},24,"chunk.go:71",#[⟨4,.data⟩],none⟩
@[go_sem] def P6OPSq6:Oper:=⟨some 56,.binOp .or 24 (.tmp 53) (.tmp 55) 24,24,"chunk.go:71",#[⟨3,.data⟩,⟨5,.data⟩],none⟩
@[go_sem] def P6OPSq7:Oper:=⟨some 57,.nilCheck (.tmp 50),0,"chunk.go:71",#[⟨0,.data⟩,⟨0,.phase⟩,⟨1,.phase⟩,⟨2,.phase⟩,⟨3,.phase⟩,⟨4,.phase⟩,⟨5,.phase⟩,⟨6,.phase⟩],none⟩
@[go_sem] def P6OPSq8:Oper:=⟨some 58,.fieldAddr 213 (.tmp 57) 1,0,"chunk.go:71",#[⟨7,.data⟩,⟨0,.phase⟩,⟨1,.phase⟩,⟨2,.phase⟩,⟨3,.phase⟩,⟨4,.phase⟩,⟨5,.phase⟩,⟨6,.phase⟩],none⟩
@[go_sem] def P6OPSq9:Oper:=⟨none,.store 24 (.tmp 58) (.tmp 56),0,"chunk.go:71",#[⟨8,.data⟩,⟨6,.data⟩,⟨5,.chain⟩,⟨0,.phase⟩,⟨1,.phase⟩,⟨2,.phase⟩,⟨3,.phase⟩,⟨4,.phase⟩,⟨5,.phase⟩,⟨6,.phase⟩],none⟩
def z2y:Array Oper:=#[P6OPSq0,P6OPSq1,P6OPSq2,P6OPSq3,P6OPSq4,P6OPSq5,P6OPSq6,P6OPSq7,P6OPSq8,P6OPSq9]
set_option maxHeartbeats 2000000 in
theorem put6 {Q:Exit→Act→World→Prop} (u0 u2 u3 u4 u5 u6 u7 u9 u10 u11 u12 u13 u14 u15 u16 u17 u18 u19 u20 u21 u22 u23 u24 u25 u26 u27 u28 u29 u30 u31 u32 u33 u34 u35 u36 u37 u38 u39 u40 u41 u42 u43 u44 u45 u46 u47 u48 u49 u50 u51 u52 u53 u54 u55 u56 u57 u58:Value) (W:World) (gr i p bt live lb:Nat) (hc1:W.cell? ⟨gr,i*3+1,none⟩=some (.int .u64 (live:Int))) (hf:W.frozen? ⟨gr,i*3+1,none⟩=false) (hor:bits .or .u64 (live:Int) (bt:Int)=(lb:Int)) (cB:∀ w,Calls Tryz.prog 164 #[.int .u64 (p:Int)] w fun e w'=>e=.returned (.int .u64 (bt:Int))∧w=w') (hQ:∀ c (a:Act) (t:Tmp) (v:Value) w,Q (.panic c) (a.put (some t) v) w→Q (.panic c) a w)
    (h:Q .normal {tmps:=#[u0,.int .u64 (p:Int),u2,u3,u4,u5,u6,u7,.pointer (some ⟨gr,i*3,none⟩),u9,u10,u11,u12,u13,u14,u15,u16,u17,u18,u19,u20,u21,u22,u23,u24,u25,u26,u27,u28,u29,u30,u31,u32,u33,u34,u35,u36,u37,u38,u39,u40,u41,u42,u43,u44,u45,u46,u47,u48,u49,.pointer (some ⟨gr,i*3,none⟩),.pointer (some ⟨gr,i*3,none⟩),.pointer (some ⟨gr,i*3+1,none⟩),.int .u64 (live:Int),.int .u64 (p:Int),.int .u64 (bt:Int),.int .u64 (lb:Int),.pointer (some ⟨gr,i*3,none⟩),.pointer (some ⟨gr,i*3+1,none⟩)],defers:=[]} (World.setCell W.drew ⟨gr,i*3+1,none⟩ (.int .u64 (lb:Int)))):(Code.region 6 z2y true).wp Tryz.prog Q {tmps:=#[u0,.int .u64 (p:Int),u2,u3,u4,u5,u6,u7,.pointer (some ⟨gr,i*3,none⟩),u9,u10,u11,u12,u13,u14,u15,u16,u17,u18,u19,u20,u21,u22,u23,u24,u25,u26,u27,u28,u29,u30,u31,u32,u33,u34,u35,u36,u37,u38,u39,u40,u41,u42,u43,u44,u45,u46,u47,u48,u49,u50,u51,u52,u53,u54,u55,u56,u57,u58],defers:=[]} W:=by
  have d1:W.drew.cell? ⟨gr,i*3+1,none⟩=some (.int .u64 (live:Int)):=hc1
  have d2:W.drew.frozen? ⟨gr,i*3+1,none⟩=false:=hf
  have s3_5_6_7_8_9:wpAny Tryz.prog .any z2y Q 0 #[true,true,true,true,true,true,true,true,true,true] {tmps:=#[u0,.int .u64 (p:Int),u2,u3,u4,u5,u6,u7,.pointer (some ⟨gr,i*3,none⟩),u9,u10,u11,u12,u13,u14,u15,u16,u17,u18,u19,u20,u21,u22,u23,u24,u25,u26,u27,u28,u29,u30,u31,u32,u33,u34,u35,u36,u37,u38,u39,u40,u41,u42,u43,u44,u45,u46,u47,u48,u49,.pointer (some ⟨gr,i*3,none⟩),.pointer (some ⟨gr,i*3,none⟩),.pointer (some ⟨gr,i*3+1,none⟩),.int .u64 (live:Int),.int .u64 (p:Int),.int .u64 (bt:Int),.int .u64 (lb:Int),.pointer (some ⟨gr,i*3,none⟩),.pointer (some ⟨gr,i*3+1,none⟩)],defers:=[]} (World.setCell W.drew ⟨gr,i*3+1,none⟩ (.int .u64 (lb:Int))):=by
    exact wpAny_done (by kernel_rfl) h _
  have s3_5_6_7_8:wpAny Tryz.prog .any z2y Q 1 #[true,true,true,true,true,true,true,true,true,false] {tmps:=#[u0,.int .u64 (p:Int),u2,u3,u4,u5,u6,u7,.pointer (some ⟨gr,i*3,none⟩),u9,u10,u11,u12,u13,u14,u15,u16,u17,u18,u19,u20,u21,u22,u23,u24,u25,u26,u27,u28,u29,u30,u31,u32,u33,u34,u35,u36,u37,u38,u39,u40,u41,u42,u43,u44,u45,u46,u47,u48,u49,.pointer (some ⟨gr,i*3,none⟩),.pointer (some ⟨gr,i*3,none⟩),.pointer (some ⟨gr,i*3+1,none⟩),.int .u64 (live:Int),.int .u64 (p:Int),.int .u64 (bt:Int),.int .u64 (lb:Int),.pointer (some ⟨gr,i*3,none⟩),.pointer (some ⟨gr,i*3+1,none⟩)],defers:=[]} W.drew:=by
    refine wpAny_ready (rs:=[9]) (by kernel_rfl) (by simp) ?_
    refine AllReady.cons (o:=P6OPSq9) rfl (fun K hK=>z1a rfl (z1p (z5X d1 d2)) (hK _ _ s3_5_6_7_8_9)) ?_
    exact AllReady.nil
  have s3_5_6_7:wpAny Tryz.prog .any z2y Q 2 #[true,true,true,true,true,true,true,true,false,false] {tmps:=#[u0,.int .u64 (p:Int),u2,u3,u4,u5,u6,u7,.pointer (some ⟨gr,i*3,none⟩),u9,u10,u11,u12,u13,u14,u15,u16,u17,u18,u19,u20,u21,u22,u23,u24,u25,u26,u27,u28,u29,u30,u31,u32,u33,u34,u35,u36,u37,u38,u39,u40,u41,u42,u43,u44,u45,u46,u47,u48,u49,.pointer (some ⟨gr,i*3,none⟩),.pointer (some ⟨gr,i*3,none⟩),.pointer (some ⟨gr,i*3+1,none⟩),.int .u64 (live:Int),.int .u64 (p:Int),.int .u64 (bt:Int),.int .u64 (lb:Int),.pointer (some ⟨gr,i*3,none⟩),u58],defers:=[]} W.drew:=by
    refine wpAny_ready (rs:=[8]) (by kernel_rfl) (by simp) ?_
    refine AllReady.cons (o:=P6OPSq8) rfl (fun K hK=>z06 (v:=.pointer (some ⟨gr,i*3+1,none⟩)) rfl (z07 (by go_simp)) (hK _ _ s3_5_6_7_8)) ?_
    exact AllReady.nil
  have s3_5_6:wpAny Tryz.prog .any z2y Q 3 #[true,true,true,true,true,true,true,false,false,false] {tmps:=#[u0,.int .u64 (p:Int),u2,u3,u4,u5,u6,u7,.pointer (some ⟨gr,i*3,none⟩),u9,u10,u11,u12,u13,u14,u15,u16,u17,u18,u19,u20,u21,u22,u23,u24,u25,u26,u27,u28,u29,u30,u31,u32,u33,u34,u35,u36,u37,u38,u39,u40,u41,u42,u43,u44,u45,u46,u47,u48,u49,.pointer (some ⟨gr,i*3,none⟩),.pointer (some ⟨gr,i*3,none⟩),.pointer (some ⟨gr,i*3+1,none⟩),.int .u64 (live:Int),.int .u64 (p:Int),.int .u64 (bt:Int),.int .u64 (lb:Int),u57,u58],defers:=[]} W.drew:=by
    refine wpAny_ready (rs:=[7]) (by kernel_rfl) (by simp) ?_
    refine AllReady.cons (o:=P6OPSq7) rfl (fun K hK=>z06 (v:=.pointer (some ⟨gr,i*3,none⟩)) rfl rfl (hK _ _ s3_5_6_7)) ?_
    exact AllReady.nil
  have s3_5:wpAny Tryz.prog .any z2y Q 4 #[true,true,true,true,true,true,false,false,false,false] {tmps:=#[u0,.int .u64 (p:Int),u2,u3,u4,u5,u6,u7,.pointer (some ⟨gr,i*3,none⟩),u9,u10,u11,u12,u13,u14,u15,u16,u17,u18,u19,u20,u21,u22,u23,u24,u25,u26,u27,u28,u29,u30,u31,u32,u33,u34,u35,u36,u37,u38,u39,u40,u41,u42,u43,u44,u45,u46,u47,u48,u49,.pointer (some ⟨gr,i*3,none⟩),.pointer (some ⟨gr,i*3,none⟩),.pointer (some ⟨gr,i*3+1,none⟩),.int .u64 (live:Int),.int .u64 (p:Int),.int .u64 (bt:Int),u56,u57,u58],defers:=[]} W.drew:=by
    refine wpAny_ready (rs:=[6]) (by kernel_rfl) (by simp) ?_
    refine AllReady.cons (o:=P6OPSq6) rfl (fun K hK=>z06 (v:=.int .u64 (lb:Int)) rfl (z07 (by go_simp)) (hK _ _ s3_5_6)) ?_
    exact AllReady.nil
  have s5:wpAny Tryz.prog .any z2y Q 5 #[true,true,true,false,true,true,false,false,false,false] {tmps:=#[u0,.int .u64 (p:Int),u2,u3,u4,u5,u6,u7,.pointer (some ⟨gr,i*3,none⟩),u9,u10,u11,u12,u13,u14,u15,u16,u17,u18,u19,u20,u21,u22,u23,u24,u25,u26,u27,u28,u29,u30,u31,u32,u33,u34,u35,u36,u37,u38,u39,u40,u41,u42,u43,u44,u45,u46,u47,u48,u49,.pointer (some ⟨gr,i*3,none⟩),.pointer (some ⟨gr,i*3,none⟩),.pointer (some ⟨gr,i*3+1,none⟩),u53,.int .u64 (p:Int),.int .u64 (bt:Int),u56,u57,u58],defers:=[]} W.drew:=by
    refine wpAny_ready (rs:=[3]) (by kernel_rfl) (by simp) ?_
    refine AllReady.cons (o:=P6OPSq3) rfl (fun K hK=>z06 (v:=.int .u64 (live:Int)) rfl (z07 (z3d d1)) (hK _ _ s3_5)) ?_
    exact AllReady.nil
  have s3:wpAny Tryz.prog .any z2y Q 5 #[true,true,true,true,true,false,false,false,false,false] {tmps:=#[u0,.int .u64 (p:Int),u2,u3,u4,u5,u6,u7,.pointer (some ⟨gr,i*3,none⟩),u9,u10,u11,u12,u13,u14,u15,u16,u17,u18,u19,u20,u21,u22,u23,u24,u25,u26,u27,u28,u29,u30,u31,u32,u33,u34,u35,u36,u37,u38,u39,u40,u41,u42,u43,u44,u45,u46,u47,u48,u49,.pointer (some ⟨gr,i*3,none⟩),.pointer (some ⟨gr,i*3,none⟩),.pointer (some ⟨gr,i*3+1,none⟩),.int .u64 (live:Int),.int .u64 (p:Int),u55,u56,u57,u58],defers:=[]} W.drew:=by
    refine wpAny_ready (rs:=[5]) (by kernel_rfl) (by simp) ?_
    refine AllReady.cons (o:=P6OPSq5) rfl (fun K hK=>?_) ?_
    · rw [if_pos (by rfl)]
      go_simp
      refine (cB (W.drew)).mono ?_
      rintro e w' ⟨rfl,rfl⟩
      exact hK _ _ s3_5
    exact AllReady.nil
  have s:wpAny Tryz.prog .any z2y Q 6 #[true,true,true,false,true,false,false,false,false,false] {tmps:=#[u0,.int .u64 (p:Int),u2,u3,u4,u5,u6,u7,.pointer (some ⟨gr,i*3,none⟩),u9,u10,u11,u12,u13,u14,u15,u16,u17,u18,u19,u20,u21,u22,u23,u24,u25,u26,u27,u28,u29,u30,u31,u32,u33,u34,u35,u36,u37,u38,u39,u40,u41,u42,u43,u44,u45,u46,u47,u48,u49,.pointer (some ⟨gr,i*3,none⟩),.pointer (some ⟨gr,i*3,none⟩),.pointer (some ⟨gr,i*3+1,none⟩),u53,.int .u64 (p:Int),u55,u56,u57,u58],defers:=[]} W.drew:=by
    refine wpAny_ready (rs:=[3,5]) (by kernel_rfl) (by simp) ?_
    refine AllReady.cons (o:=P6OPSq3) rfl (fun K hK=>z06 (v:=.int .u64 (live:Int)) rfl (z07 (z3d d1)) (hK _ _ s3)) ?_
    refine AllReady.cons (o:=P6OPSq5) rfl (fun K hK=>?_) ?_
    · rw [if_pos (by rfl)]
      go_simp
      refine (cB (W.drew)).mono ?_
      rintro e w' ⟨rfl,rfl⟩
      exact hK _ _ s5
    exact AllReady.nil
  refine wp_region_any (by kernel_rfl) ?_
  refine tkB P6OPSq0 (.pointer (some ⟨gr,i*3,none⟩)) 0 hQ ?_
  simp only [List.set]
  refine tkB P6OPSq1 (.pointer (some ⟨gr,i*3,none⟩)) 1 hQ ?_
  simp only [List.set]
  refine tkB P6OPSq2 (.pointer (some ⟨gr,i*3+1,none⟩)) 2 hQ ?_
  simp only [List.set]
  refine tkB P6OPSq4 (.int .u64 (p:Int)) 4 hQ ?_
  simp only [List.set]
  exact s
end Go.Proofs.YtnmalbngdhjhjaaGreatDoor.HX
