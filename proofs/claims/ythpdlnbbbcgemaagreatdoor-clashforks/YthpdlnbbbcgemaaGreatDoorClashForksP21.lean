/- Texts of ClashForks, one behind the other: ClashBagRegions. -/
import Derived.Test.YthpdlnbbbcgemaaGreatDoorClashForksP20
namespace Go.Proofs.YthpdlnbbbcgemaaGreatDoor
open Go.RowKit Go.Shelf
set_option maxRecDepth 100000
theorem z0e {F:Fence} {n:Nat} {ops:Array Oper} {o:Oper} {a:Act} {w w':World} {K:Act→World→Prop} {Q:Exit→Act→World→Prop} {E:Prop} {v:Value} (hg:o.guard=none) (hd:∀ c,o.op≠.defer c) (hab:o.about Tryz.prog w a.eval=none)
    (hrun:(execOp a.eval o).run Tryz.prog w=.ok (.value v) w') (h:K (a.put o.dst v) w'):if Region.wanted o (yielded ops a.tmps)=true then Oper.wpIn F n Tryz.prog o a w K Q else E:=by
  have hw:Region.wanted o (yielded ops a.tmps)=true:=by simp [Region.wanted,hg]
  rw [if_pos hw]
  refine ⟨fun f hf=>(by rw [hab] at hf;cases hf),?_⟩
  rw [Oper.semAt_eq _ _ _ hd,hrun]
  exact h
theorem z85 {F:Fence} {n:Nat} {ops:Array Oper} {o:Oper} {a:Act} {w w':World} {K:Act→World→Prop} {Q:Exit→Act→World→Prop} {E:Prop} (hg:o.guard=none) (hd:∀ c,o.op≠.defer c) (hab:o.about Tryz.prog w a.eval=none)
    (hrun:(execOp a.eval o).run Tryz.prog w=.ok .skip w') (h:K (a.put o.dst undef) w'):if Region.wanted o (yielded ops a.tmps)=true then Oper.wpIn F n Tryz.prog o a w K Q else E:=by
  have hw:Region.wanted o (yielded ops a.tmps)=true:=by simp [Region.wanted,hg]
  rw [if_pos hw]
  refine ⟨fun f hf=>(by rw [hab] at hf;cases hf),?_⟩
  rw [Oper.semAt_eq _ _ _ hd,hrun]
  exact h
theorem z1m {F:Fence} {n:Nat} {ops:Array Oper} {o:Oper} {a:Act} {w:World} {K:Act→World→Prop} {Q:Exit→Act→World→Prop} {E:Prop} (hg:o.guard=none) (hd:∀ c,o.op≠.defer c) (hF:∀ f,F.fn f) (hn:F.depth.isSome=true→1≤n) {f:FuncId} {args:Array Value}
    (hrun:(execOp a.eval o).run Tryz.prog w=.ok (.enter f args) w) (h:CallsIn F (n - 1) Tryz.prog f args w fun e w'=>∃ v,e=.returned v∧K (a.put o.dst v) w'):if Region.wanted o (yielded ops a.tmps)=true then Oper.wpIn F n Tryz.prog o a w K Q else E:=by
  have hw:Region.wanted o (yielded ops a.tmps)=true:=by simp [Region.wanted,hg]
  rw [if_pos hw]
  refine ⟨fun f _=>hF f,?_⟩
  rw [Oper.semAt_eq _ _ _ hd,hrun]
  refine ⟨hn,h.mono ?_⟩
  rintro e w' ⟨v,rfl,hk⟩
  exact hk
theorem z3K {w:World} {g:Nat} {A X:List Int} (h:Has w g (z01 A).toArray 24) (lA:A.length=32) (lX:X.length=32):(Instr.storeAt 24 (.pointer (some ⟨g,0,none⟩)) (.agg (z01 X).toArray)).run Tryz.prog w=.ok () (w.setRow g (z01 X).toArray):=by
  simp only [Instr.storeAt,Instr.sureAddr,Sem.run_bind,Sem.run_pure,Result.andThen]
  exact run_storeVar_row w g 24 24 (z01 A).toArray (z01 X).toArray h (z02 lX) (by simp [z01,lA,lX]) (z0m X)
def z1K:Array Oper:=#[⟨some 24,.load 55 (.tmp 3),55,"met.go:50",#[],none⟩,⟨some 25,.move (.tmp 1),22,"met.go:50",#[],none⟩,⟨some 26,.load 24 (.tmp 6),24,"met.go:50",#[],none⟩,⟨some 27,.call {callee:=.value (.func 88),args:=#[.tmp 25,.tmp 26],argTypes:=#[22,24]},25,"met.go:50",#[⟨1,.data⟩,⟨2,.data⟩],none⟩,⟨some 28,.call {callee:=.value (.func 47),args:=#[.tmp 24,.tmp 27],argTypes:=#[55,25]},24,"met.go:50",#[⟨0,.data⟩,⟨3,.data⟩,⟨3,.chain⟩],none⟩]
set_option maxHeartbeats 1000000 in
theorem bag8 {F:Fence} {n:Nat} (hF:∀ f,F.fn f) (hn:F.depth.isSome=true→1≤n) {Q:Exit→Act→World→Prop} {u0 u2 u4 u5 u7 u8 u9 u10 u11 u12 u13 u14 u15 u16 u17 u18 u19 u20 u21 u22 u23 u24 u25 u26 u27 u28:Value} {df:List Deferred} (W:World) (b3 b6 b N:Nat) (A X:List Int) (lA:A.length=32) (c3:W.cell? ⟨b3,0,none⟩=some (.pointer (some ⟨b,0,none⟩))) (r6:W.rangeAt b6 0 (z01 A)) (P1:Nat→Nat→World→Prop) (P2:World→Prop) (k1:∀ gt c w,P1 gt c w→w.cell? ⟨b3,0,none⟩=some (.pointer (some ⟨b,0,none⟩)))
    (cF:CallsIn F (n - 1) Tryz.prog 88 #[.int .u64 (N:Int),.agg (z01 A).toArray] W.drew fun e w'=>∃ (gt:Nat) (c:Nat),e=.returned (.slice (some ⟨gt,0,none⟩) 41 c)∧P1 gt c w')
    (cT:∀ gt c w,P1 gt c w→CallsIn F (n - 1) Tryz.prog 47 #[.pointer (some ⟨b,0,none⟩),.slice (some ⟨gt,0,none⟩) 41 c] w fun e w'=>e=.returned (.agg (z01 X).toArray)∧P2 w')
    (h:∀ (gt c:Nat) w,P2 w→Q .normal {tmps:=#[u0,.int .u64 (N:Int),u2,.pointer (some ⟨b3,0,none⟩),u4,u5,.pointer (some ⟨b6,0,none⟩),u7,u8,u9,u10,u11,u12,u13,u14,u15,u16,u17,u18,u19,u20,u21,u22,u23,.pointer (some ⟨b,0,none⟩),.int .u64 (N:Int),.agg (z01 A).toArray,.slice (some ⟨gt,0,none⟩) 41 c,.agg (z01 X).toArray],defers:=df} w):
    (Code.region 8 z1K true).wpIn F n Tryz.prog Q {tmps:=#[u0,.int .u64 (N:Int),u2,.pointer (some ⟨b3,0,none⟩),u4,u5,.pointer (some ⟨b6,0,none⟩),u7,u8,u9,u10,u11,u12,u13,u14,u15,u16,u17,u18,u19,u20,u21,u22,u23,u24,u25,u26,u27,u28],defers:=df} W:=by
  have d6:W.drew.rangeAt b6 0 (z01 A):=(World.rangeAt_drew _ _ _ _).2 r6
  have d3:W.drew.cell? ⟨b3,0,none⟩=some (.pointer (some ⟨b,0,none⟩)):=c3
  have h11111:∀ (gt c:Nat) (w:World),P2 w→wpAnyIn F n Tryz.prog .any z1K Q 0 #[true,true,true,true,true] {tmps:=#[u0,.int .u64 (N:Int),u2,.pointer (some ⟨b3,0,none⟩),u4,u5,.pointer (some ⟨b6,0,none⟩),u7,u8,u9,u10,u11,u12,u13,u14,u15,u16,u17,u18,u19,u20,u21,u22,u23,.pointer (some ⟨b,0,none⟩),.int .u64 (N:Int),.agg (z01 A).toArray,.slice (some ⟨gt,0,none⟩) 41 c,.agg (z01 X).toArray],defers:=df} w:=fun gt c w hp=>by
    exact wpAnyIn_done (by kernel_rfl) (h gt c w hp) _
  have h11110:∀ (gt c:Nat) (w:World),P1 gt c w→wpAnyIn F n Tryz.prog .any z1K Q 1 #[true,true,true,true,false] {tmps:=#[u0,.int .u64 (N:Int),u2,.pointer (some ⟨b3,0,none⟩),u4,u5,.pointer (some ⟨b6,0,none⟩),u7,u8,u9,u10,u11,u12,u13,u14,u15,u16,u17,u18,u19,u20,u21,u22,u23,.pointer (some ⟨b,0,none⟩),.int .u64 (N:Int),.agg (z01 A).toArray,.slice (some ⟨gt,0,none⟩) 41 c,u28],defers:=df} w:=fun gt c w hp=>by
    refine wpAnyIn_ready (rs:=[4]) (by kernel_rfl) (by simp) ?_
    refine AllReadyIn.cons (o:=⟨some 28,.call {callee:=.value (.func 47),args:=#[.tmp 24,.tmp 27],argTypes:=#[55,25]},24,"met.go:50",#[⟨0,.data⟩,⟨3,.data⟩,⟨3,.chain⟩],none⟩) rfl (fun K hK=>?_) ?_
    · refine z1m rfl (by intro c h;cases h) hF hn (by go_simp) ((cT gt c w hp).mono ?_)
      rintro e w' ⟨rfl,hp⟩
      exact ⟨_,rfl,hK _ _ (h11111 gt c w' hp)⟩
    exact AllReadyIn.nil
  have h01110:∀ (gt c:Nat) (w:World),P1 gt c w→wpAnyIn F n Tryz.prog .any z1K Q 2 #[false,true,true,true,false] {tmps:=#[u0,.int .u64 (N:Int),u2,.pointer (some ⟨b3,0,none⟩),u4,u5,.pointer (some ⟨b6,0,none⟩),u7,u8,u9,u10,u11,u12,u13,u14,u15,u16,u17,u18,u19,u20,u21,u22,u23,u24,.int .u64 (N:Int),.agg (z01 A).toArray,.slice (some ⟨gt,0,none⟩) 41 c,u28],defers:=df} w:=fun gt c w hp=>by
    refine wpAnyIn_ready (rs:=[0]) (by kernel_rfl) (by simp) ?_
    refine AllReadyIn.cons (o:=⟨some 24,.load 55 (.tmp 3),55,"met.go:50",#[],none⟩) rfl (fun K hK=>?_) ?_
    · exact z0e (v:=.pointer (some ⟨b,0,none⟩)) rfl (by intro c h;cases h) rfl (by have hx:=k1 gt c w hp;go_simp) (hK _ _ (h11110 gt c w hp))
    exact AllReadyIn.nil
  have h11100:wpAnyIn F n Tryz.prog .any z1K Q 2 #[true,true,true,false,false] {tmps:=#[u0,.int .u64 (N:Int),u2,.pointer (some ⟨b3,0,none⟩),u4,u5,.pointer (some ⟨b6,0,none⟩),u7,u8,u9,u10,u11,u12,u13,u14,u15,u16,u17,u18,u19,u20,u21,u22,u23,.pointer (some ⟨b,0,none⟩),.int .u64 (N:Int),.agg (z01 A).toArray,u27,u28],defers:=df} W.drew:= by
    refine wpAnyIn_ready (rs:=[3]) (by kernel_rfl) (by simp) ?_
    refine AllReadyIn.cons (o:=⟨some 27,.call {callee:=.value (.func 88),args:=#[.tmp 25,.tmp 26],argTypes:=#[22,24]},25,"met.go:50",#[⟨1,.data⟩,⟨2,.data⟩],none⟩) rfl (fun K hK=>?_) ?_
    · refine z1m rfl (by intro c h;cases h) hF hn (by go_simp) (cF.mono ?_)
      rintro e w' ⟨gt,c,rfl,hp⟩
      exact ⟨_,rfl,hK _ _ (h11110 gt c w' hp)⟩
    exact AllReadyIn.nil
  have h01100:wpAnyIn F n Tryz.prog .any z1K Q 3 #[false,true,true,false,false] {tmps:=#[u0,.int .u64 (N:Int),u2,.pointer (some ⟨b3,0,none⟩),u4,u5,.pointer (some ⟨b6,0,none⟩),u7,u8,u9,u10,u11,u12,u13,u14,u15,u16,u17,u18,u19,u20,u21,u22,u23,u24,.int .u64 (N:Int),.agg (z01 A).toArray,u27,u28],defers:=df} W.drew:= by
    refine wpAnyIn_ready (rs:=[0,3]) (by kernel_rfl) (by simp) ?_
    refine AllReadyIn.cons (o:=⟨some 24,.load 55 (.tmp 3),55,"met.go:50",#[],none⟩) rfl (fun K hK=>?_) ?_
    · exact z0e (v:=.pointer (some ⟨b,0,none⟩)) rfl (by intro c h;cases h) rfl (by have hx:=d3;go_simp) (hK _ _ h11100)
    refine AllReadyIn.cons (o:=⟨some 27,.call {callee:=.value (.func 88),args:=#[.tmp 25,.tmp 26],argTypes:=#[22,24]},25,"met.go:50",#[⟨1,.data⟩,⟨2,.data⟩],none⟩) rfl (fun K hK=>?_) ?_
    · refine z1m rfl (by intro c h;cases h) hF hn (by go_simp) (cF.mono ?_)
      rintro e w' ⟨gt,c,rfl,hp⟩
      exact ⟨_,rfl,hK _ _ (h01110 gt c w' hp)⟩
    exact AllReadyIn.nil
  have h10100:wpAnyIn F n Tryz.prog .any z1K Q 3 #[true,false,true,false,false] {tmps:=#[u0,.int .u64 (N:Int),u2,.pointer (some ⟨b3,0,none⟩),u4,u5,.pointer (some ⟨b6,0,none⟩),u7,u8,u9,u10,u11,u12,u13,u14,u15,u16,u17,u18,u19,u20,u21,u22,u23,.pointer (some ⟨b,0,none⟩),u25,.agg (z01 A).toArray,u27,u28],defers:=df} W.drew:= by
    refine wpAnyIn_ready (rs:=[1]) (by kernel_rfl) (by simp) ?_
    refine AllReadyIn.cons (o:=⟨some 25,.move (.tmp 1),22,"met.go:50",#[],none⟩) rfl (fun K hK=>?_) ?_
    · exact z0e (v:=.int .u64 (N:Int)) rfl (by intro c h;cases h) rfl rfl (hK _ _ h11100)
    exact AllReadyIn.nil
  have h11000:wpAnyIn F n Tryz.prog .any z1K Q 3 #[true,true,false,false,false] {tmps:=#[u0,.int .u64 (N:Int),u2,.pointer (some ⟨b3,0,none⟩),u4,u5,.pointer (some ⟨b6,0,none⟩),u7,u8,u9,u10,u11,u12,u13,u14,u15,u16,u17,u18,u19,u20,u21,u22,u23,.pointer (some ⟨b,0,none⟩),.int .u64 (N:Int),u26,u27,u28],defers:=df} W.drew:= by
    refine wpAnyIn_ready (rs:=[2]) (by kernel_rfl) (by simp) ?_
    refine AllReadyIn.cons (o:=⟨some 26,.load 24 (.tmp 6),24,"met.go:50",#[],none⟩) rfl (fun K hK=>?_) ?_
    · exact z0e (v:=.agg (z01 A).toArray) rfl (by intro c h;cases h) rfl (z0I (run_loadAt_mid (P:=Tryz.prog) W.drew b6 0 24 _ _ d6 Tryz.underlying24 rfl (z0f lA))) (hK _ _ h11100)
    exact AllReadyIn.nil
  have h00100:wpAnyIn F n Tryz.prog .any z1K Q 4 #[false,false,true,false,false] {tmps:=#[u0,.int .u64 (N:Int),u2,.pointer (some ⟨b3,0,none⟩),u4,u5,.pointer (some ⟨b6,0,none⟩),u7,u8,u9,u10,u11,u12,u13,u14,u15,u16,u17,u18,u19,u20,u21,u22,u23,u24,u25,.agg (z01 A).toArray,u27,u28],defers:=df} W.drew:= by
    refine wpAnyIn_ready (rs:=[0,1]) (by kernel_rfl) (by simp) ?_
    refine AllReadyIn.cons (o:=⟨some 24,.load 55 (.tmp 3),55,"met.go:50",#[],none⟩) rfl (fun K hK=>?_) ?_
    · exact z0e (v:=.pointer (some ⟨b,0,none⟩)) rfl (by intro c h;cases h) rfl (by have hx:=d3;go_simp) (hK _ _ h10100)
    refine AllReadyIn.cons (o:=⟨some 25,.move (.tmp 1),22,"met.go:50",#[],none⟩) rfl (fun K hK=>?_) ?_
    · exact z0e (v:=.int .u64 (N:Int)) rfl (by intro c h;cases h) rfl rfl (hK _ _ h01100)
    exact AllReadyIn.nil
  have h01000:wpAnyIn F n Tryz.prog .any z1K Q 4 #[false,true,false,false,false] {tmps:=#[u0,.int .u64 (N:Int),u2,.pointer (some ⟨b3,0,none⟩),u4,u5,.pointer (some ⟨b6,0,none⟩),u7,u8,u9,u10,u11,u12,u13,u14,u15,u16,u17,u18,u19,u20,u21,u22,u23,u24,.int .u64 (N:Int),u26,u27,u28],defers:=df} W.drew:= by
    refine wpAnyIn_ready (rs:=[0,2]) (by kernel_rfl) (by simp) ?_
    refine AllReadyIn.cons (o:=⟨some 24,.load 55 (.tmp 3),55,"met.go:50",#[],none⟩) rfl (fun K hK=>?_) ?_
    · exact z0e (v:=.pointer (some ⟨b,0,none⟩)) rfl (by intro c h;cases h) rfl (by have hx:=d3;go_simp) (hK _ _ h11000)
    refine AllReadyIn.cons (o:=⟨some 26,.load 24 (.tmp 6),24,"met.go:50",#[],none⟩) rfl (fun K hK=>?_) ?_
    · exact z0e (v:=.agg (z01 A).toArray) rfl (by intro c h;cases h) rfl (z0I (run_loadAt_mid (P:=Tryz.prog) W.drew b6 0 24 _ _ d6 Tryz.underlying24 rfl (z0f lA))) (hK _ _ h01100)
    exact AllReadyIn.nil
  have h10000:wpAnyIn F n Tryz.prog .any z1K Q 4 #[true,false,false,false,false] {tmps:=#[u0,.int .u64 (N:Int),u2,.pointer (some ⟨b3,0,none⟩),u4,u5,.pointer (some ⟨b6,0,none⟩),u7,u8,u9,u10,u11,u12,u13,u14,u15,u16,u17,u18,u19,u20,u21,u22,u23,.pointer (some ⟨b,0,none⟩),u25,u26,u27,u28],defers:=df} W.drew:= by
    refine wpAnyIn_ready (rs:=[1,2]) (by kernel_rfl) (by simp) ?_
    refine AllReadyIn.cons (o:=⟨some 25,.move (.tmp 1),22,"met.go:50",#[],none⟩) rfl (fun K hK=>?_) ?_
    · exact z0e (v:=.int .u64 (N:Int)) rfl (by intro c h;cases h) rfl rfl (hK _ _ h11000)
    refine AllReadyIn.cons (o:=⟨some 26,.load 24 (.tmp 6),24,"met.go:50",#[],none⟩) rfl (fun K hK=>?_) ?_
    · exact z0e (v:=.agg (z01 A).toArray) rfl (by intro c h;cases h) rfl (z0I (run_loadAt_mid (P:=Tryz.prog) W.drew b6 0 24 _ _ d6 Tryz.underlying24 rfl (z0f lA))) (hK _ _ h10100)
    exact AllReadyIn.nil
  have h00000:wpAnyIn F n Tryz.prog .any z1K Q 5 #[false,false,false,false,false] {tmps:=#[u0,.int .u64 (N:Int),u2,.pointer (some ⟨b3,0,none⟩),u4,u5,.pointer (some ⟨b6,0,none⟩),u7,u8,u9,u10,u11,u12,u13,u14,u15,u16,u17,u18,u19,u20,u21,u22,u23,u24,u25,u26,u27,u28],defers:=df} W.drew:= by
    refine wpAnyIn_ready (rs:=[0,1,2]) (by kernel_rfl) (by simp) ?_
    refine AllReadyIn.cons (o:=⟨some 24,.load 55 (.tmp 3),55,"met.go:50",#[],none⟩) rfl (fun K hK=>?_) ?_
    · exact z0e (v:=.pointer (some ⟨b,0,none⟩)) rfl (by intro c h;cases h) rfl (by have hx:=d3;go_simp) (hK _ _ h10000)
    refine AllReadyIn.cons (o:=⟨some 25,.move (.tmp 1),22,"met.go:50",#[],none⟩) rfl (fun K hK=>?_) ?_
    · exact z0e (v:=.int .u64 (N:Int)) rfl (by intro c h;cases h) rfl rfl (hK _ _ h01000)
    refine AllReadyIn.cons (o:=⟨some 26,.load 24 (.tmp 6),24,"met.go:50",#[],none⟩) rfl (fun K hK=>?_) ?_
    · exact z0e (v:=.agg (z01 A).toArray) rfl (by intro c h;cases h) rfl (z0I (run_loadAt_mid (P:=Tryz.prog) W.drew b6 0 24 _ _ d6 Tryz.underlying24 rfl (z0f lA))) (hK _ _ h00100)
    exact AllReadyIn.nil
  refine wpIn_region_any (by kernel_rfl) ?_
  exact h00000
def z1C:Array Oper:=#[⟨some 19,.load 55 (.tmp 3),55,"met.go:47",#[],none⟩,⟨some 20,.load 24 (.tmp 8),24,"met.go:47",#[],none⟩,⟨some 21,.load 24 (.tmp 6),24,"met.go:47",#[],none⟩,⟨some 22,.call {callee:=.value (.func 87),args:=#[.tmp 20,.tmp 21],argTypes:=#[24,24]},25,"met.go:47",#[⟨1,.data⟩,⟨2,.data⟩],none⟩,⟨some 23,.call {callee:=.value (.func 47),args:=#[.tmp 19,.tmp 22],argTypes:=#[55,25]},24,"met.go:47",#[⟨0,.data⟩,⟨3,.data⟩,⟨3,.chain⟩],none⟩,⟨none,.store 24 (.tmp 6) (.tmp 23),0,"met.go:47",#[⟨4,.data⟩,⟨4,.chain⟩,⟨0,.phase⟩,⟨1,.phase⟩,⟨2,.phase⟩,⟨3,.phase⟩,⟨4,.phase⟩],none⟩]
set_option maxHeartbeats 1000000 in
theorem bag7 {F:Fence} {n:Nat} (hF:∀ f,F.fn f) (hn:F.depth.isSome=true→1≤n) {Q:Exit→Act→World→Prop} {u0 u1 u2 u4 u5 u7 u9 u10 u11 u12 u13 u14 u15 u16 u17 u18 u19 u20 u21 u22 u23 u24 u25 u26 u27 u28:Value} {df:List Deferred} (W:World) (b3 b6 b8 b:Nat) (L A X:List Int) (lL:L.length=32) (lA:A.length=32) (lX:X.length=32) (c3:W.cell? ⟨b3,0,none⟩=some (.pointer (some ⟨b,0,none⟩))) (r8:W.rangeAt b8 0 (z01 L)) (r6:W.rangeAt b6 0 (z01 A)) (P1:Nat→Nat→World→Prop) (P2:World→Prop) (k1:∀ gt c w,P1 gt c w→w.cell? ⟨b3,0,none⟩=some (.pointer (some ⟨b,0,none⟩)))
    (cF:CallsIn F (n - 1) Tryz.prog 87 #[.agg (z01 L).toArray,.agg (z01 A).toArray] W.drew fun e w'=>∃ (gt:Nat) (c:Nat),e=.returned (.slice (some ⟨gt,0,none⟩) 65 c)∧P1 gt c w')
    (cT:∀ gt c w,P1 gt c w→CallsIn F (n - 1) Tryz.prog 47 #[.pointer (some ⟨b,0,none⟩),.slice (some ⟨gt,0,none⟩) 65 c] w fun e w'=>e=.returned (.agg (z01 X).toArray)∧P2 w')
    (st:∀ w,P2 w→Has w b6 (z01 A).toArray 24) (h:∀ (gt c:Nat) w,P2 w→Q .normal {tmps:=#[u0,u1,u2,.pointer (some ⟨b3,0,none⟩),u4,u5,.pointer (some ⟨b6,0,none⟩),u7,.pointer (some ⟨b8,0,none⟩),u9,u10,u11,u12,u13,u14,u15,u16,u17,u18,.pointer (some ⟨b,0,none⟩),.agg (z01 L).toArray,.agg (z01 A).toArray,.slice (some ⟨gt,0,none⟩) 65 c,.agg (z01 X).toArray,u24,u25,u26,u27,u28],defers:=df} (w.setRow b6 (z01 X).toArray)):
    (Code.region 7 z1C true).wpIn F n Tryz.prog Q {tmps:=#[u0,u1,u2,.pointer (some ⟨b3,0,none⟩),u4,u5,.pointer (some ⟨b6,0,none⟩),u7,.pointer (some ⟨b8,0,none⟩),u9,u10,u11,u12,u13,u14,u15,u16,u17,u18,u19,u20,u21,u22,u23,u24,u25,u26,u27,u28],defers:=df} W:=by
  have d8:W.drew.rangeAt b8 0 (z01 L):=(World.rangeAt_drew _ _ _ _).2 r8
  have d6:W.drew.rangeAt b6 0 (z01 A):=(World.rangeAt_drew _ _ _ _).2 r6
  have d3:W.drew.cell? ⟨b3,0,none⟩=some (.pointer (some ⟨b,0,none⟩)):=c3
  have h111111:∀ (gt c:Nat) (w:World),P2 w→wpAnyIn F n Tryz.prog .any z1C Q 0 #[true,true,true,true,true,true] {tmps:=#[u0,u1,u2,.pointer (some ⟨b3,0,none⟩),u4,u5,.pointer (some ⟨b6,0,none⟩),u7,.pointer (some ⟨b8,0,none⟩),u9,u10,u11,u12,u13,u14,u15,u16,u17,u18,.pointer (some ⟨b,0,none⟩),.agg (z01 L).toArray,.agg (z01 A).toArray,.slice (some ⟨gt,0,none⟩) 65 c,.agg (z01 X).toArray,u24,u25,u26,u27,u28],defers:=df} (w.setRow b6 (z01 X).toArray):=fun gt c w hp=>by
    exact wpAnyIn_done (by kernel_rfl) (h gt c w hp) _
  have h111110:∀ (gt c:Nat) (w:World),P2 w→wpAnyIn F n Tryz.prog .any z1C Q 1 #[true,true,true,true,true,false] {tmps:=#[u0,u1,u2,.pointer (some ⟨b3,0,none⟩),u4,u5,.pointer (some ⟨b6,0,none⟩),u7,.pointer (some ⟨b8,0,none⟩),u9,u10,u11,u12,u13,u14,u15,u16,u17,u18,.pointer (some ⟨b,0,none⟩),.agg (z01 L).toArray,.agg (z01 A).toArray,.slice (some ⟨gt,0,none⟩) 65 c,.agg (z01 X).toArray,u24,u25,u26,u27,u28],defers:=df} w:=fun gt c w hp=>by
    refine wpAnyIn_ready (rs:=[5]) (by kernel_rfl) (by simp) ?_
    refine AllReadyIn.cons (o:=⟨none,.store 24 (.tmp 6) (.tmp 23),0,"met.go:47",#[⟨4,.data⟩,⟨4,.chain⟩,⟨0,.phase⟩,⟨1,.phase⟩,⟨2,.phase⟩,⟨3,.phase⟩,⟨4,.phase⟩],none⟩) rfl (fun K hK=>?_) ?_
    · exact z85 rfl (by intro c h;cases h) rfl (z4M (z3K (st w hp) lA lX)) (hK _ _ (h111111 gt c w hp))
    exact AllReadyIn.nil
  have h111100:∀ (gt c:Nat) (w:World),P1 gt c w→wpAnyIn F n Tryz.prog .any z1C Q 2 #[true,true,true,true,false,false] {tmps:=#[u0,u1,u2,.pointer (some ⟨b3,0,none⟩),u4,u5,.pointer (some ⟨b6,0,none⟩),u7,.pointer (some ⟨b8,0,none⟩),u9,u10,u11,u12,u13,u14,u15,u16,u17,u18,.pointer (some ⟨b,0,none⟩),.agg (z01 L).toArray,.agg (z01 A).toArray,.slice (some ⟨gt,0,none⟩) 65 c,u23,u24,u25,u26,u27,u28],defers:=df} w:=fun gt c w hp=>by
    refine wpAnyIn_ready (rs:=[4]) (by kernel_rfl) (by simp) ?_
    refine AllReadyIn.cons (o:=⟨some 23,.call {callee:=.value (.func 47),args:=#[.tmp 19,.tmp 22],argTypes:=#[55,25]},24,"met.go:47",#[⟨0,.data⟩,⟨3,.data⟩,⟨3,.chain⟩],none⟩) rfl (fun K hK=>?_) ?_
    · refine z1m rfl (by intro c h;cases h) hF hn (by go_simp) ((cT gt c w hp).mono ?_)
      rintro e w' ⟨rfl,hp⟩
      exact ⟨_,rfl,hK _ _ (h111110 gt c w' hp)⟩
    exact AllReadyIn.nil
  have h011100:∀ (gt c:Nat) (w:World),P1 gt c w→wpAnyIn F n Tryz.prog .any z1C Q 3 #[false,true,true,true,false,false] {tmps:=#[u0,u1,u2,.pointer (some ⟨b3,0,none⟩),u4,u5,.pointer (some ⟨b6,0,none⟩),u7,.pointer (some ⟨b8,0,none⟩),u9,u10,u11,u12,u13,u14,u15,u16,u17,u18,u19,.agg (z01 L).toArray,.agg (z01 A).toArray,.slice (some ⟨gt,0,none⟩) 65 c,u23,u24,u25,u26,u27,u28],defers:=df} w:=fun gt c w hp=>by
    refine wpAnyIn_ready (rs:=[0]) (by kernel_rfl) (by simp) ?_
    refine AllReadyIn.cons (o:=⟨some 19,.load 55 (.tmp 3),55,"met.go:47",#[],none⟩) rfl (fun K hK=>?_) ?_
    · exact z0e (v:=.pointer (some ⟨b,0,none⟩)) rfl (by intro c h;cases h) rfl (by have hx:=k1 gt c w hp;go_simp) (hK _ _ (h111100 gt c w hp))
    exact AllReadyIn.nil
  have h111000:wpAnyIn F n Tryz.prog .any z1C Q 3 #[true,true,true,false,false,false] {tmps:=#[u0,u1,u2,.pointer (some ⟨b3,0,none⟩),u4,u5,.pointer (some ⟨b6,0,none⟩),u7,.pointer (some ⟨b8,0,none⟩),u9,u10,u11,u12,u13,u14,u15,u16,u17,u18,.pointer (some ⟨b,0,none⟩),.agg (z01 L).toArray,.agg (z01 A).toArray,u22,u23,u24,u25,u26,u27,u28],defers:=df} W.drew:= by
    refine wpAnyIn_ready (rs:=[3]) (by kernel_rfl) (by simp) ?_
    refine AllReadyIn.cons (o:=⟨some 22,.call {callee:=.value (.func 87),args:=#[.tmp 20,.tmp 21],argTypes:=#[24,24]},25,"met.go:47",#[⟨1,.data⟩,⟨2,.data⟩],none⟩) rfl (fun K hK=>?_) ?_
    · refine z1m rfl (by intro c h;cases h) hF hn (by go_simp) (cF.mono ?_)
      rintro e w' ⟨gt,c,rfl,hp⟩
      exact ⟨_,rfl,hK _ _ (h111100 gt c w' hp)⟩
    exact AllReadyIn.nil
  have h011000:wpAnyIn F n Tryz.prog .any z1C Q 4 #[false,true,true,false,false,false] {tmps:=#[u0,u1,u2,.pointer (some ⟨b3,0,none⟩),u4,u5,.pointer (some ⟨b6,0,none⟩),u7,.pointer (some ⟨b8,0,none⟩),u9,u10,u11,u12,u13,u14,u15,u16,u17,u18,u19,.agg (z01 L).toArray,.agg (z01 A).toArray,u22,u23,u24,u25,u26,u27,u28],defers:=df} W.drew:= by
    refine wpAnyIn_ready (rs:=[0,3]) (by kernel_rfl) (by simp) ?_
    refine AllReadyIn.cons (o:=⟨some 19,.load 55 (.tmp 3),55,"met.go:47",#[],none⟩) rfl (fun K hK=>?_) ?_
    · exact z0e (v:=.pointer (some ⟨b,0,none⟩)) rfl (by intro c h;cases h) rfl (by have hx:=d3;go_simp) (hK _ _ h111000)
    refine AllReadyIn.cons (o:=⟨some 22,.call {callee:=.value (.func 87),args:=#[.tmp 20,.tmp 21],argTypes:=#[24,24]},25,"met.go:47",#[⟨1,.data⟩,⟨2,.data⟩],none⟩) rfl (fun K hK=>?_) ?_
    · refine z1m rfl (by intro c h;cases h) hF hn (by go_simp) (cF.mono ?_)
      rintro e w' ⟨gt,c,rfl,hp⟩
      exact ⟨_,rfl,hK _ _ (h011100 gt c w' hp)⟩
    exact AllReadyIn.nil
  have h101000:wpAnyIn F n Tryz.prog .any z1C Q 4 #[true,false,true,false,false,false] {tmps:=#[u0,u1,u2,.pointer (some ⟨b3,0,none⟩),u4,u5,.pointer (some ⟨b6,0,none⟩),u7,.pointer (some ⟨b8,0,none⟩),u9,u10,u11,u12,u13,u14,u15,u16,u17,u18,.pointer (some ⟨b,0,none⟩),u20,.agg (z01 A).toArray,u22,u23,u24,u25,u26,u27,u28],defers:=df} W.drew:= by
    refine wpAnyIn_ready (rs:=[1]) (by kernel_rfl) (by simp) ?_
    refine AllReadyIn.cons (o:=⟨some 20,.load 24 (.tmp 8),24,"met.go:47",#[],none⟩) rfl (fun K hK=>?_) ?_
    · exact z0e (v:=.agg (z01 L).toArray) rfl (by intro c h;cases h) rfl (z0I (run_loadAt_mid (P:=Tryz.prog) W.drew b8 0 24 _ _ d8 Tryz.underlying24 rfl (z0f lL))) (hK _ _ h111000)
    exact AllReadyIn.nil
  have h110000:wpAnyIn F n Tryz.prog .any z1C Q 4 #[true,true,false,false,false,false] {tmps:=#[u0,u1,u2,.pointer (some ⟨b3,0,none⟩),u4,u5,.pointer (some ⟨b6,0,none⟩),u7,.pointer (some ⟨b8,0,none⟩),u9,u10,u11,u12,u13,u14,u15,u16,u17,u18,.pointer (some ⟨b,0,none⟩),.agg (z01 L).toArray,u21,u22,u23,u24,u25,u26,u27,u28],defers:=df} W.drew:= by
    refine wpAnyIn_ready (rs:=[2]) (by kernel_rfl) (by simp) ?_
    refine AllReadyIn.cons (o:=⟨some 21,.load 24 (.tmp 6),24,"met.go:47",#[],none⟩) rfl (fun K hK=>?_) ?_
    · exact z0e (v:=.agg (z01 A).toArray) rfl (by intro c h;cases h) rfl (z0I (run_loadAt_mid (P:=Tryz.prog) W.drew b6 0 24 _ _ d6 Tryz.underlying24 rfl (z0f lA))) (hK _ _ h111000)
    exact AllReadyIn.nil
  have h001000:wpAnyIn F n Tryz.prog .any z1C Q 5 #[false,false,true,false,false,false] {tmps:=#[u0,u1,u2,.pointer (some ⟨b3,0,none⟩),u4,u5,.pointer (some ⟨b6,0,none⟩),u7,.pointer (some ⟨b8,0,none⟩),u9,u10,u11,u12,u13,u14,u15,u16,u17,u18,u19,u20,.agg (z01 A).toArray,u22,u23,u24,u25,u26,u27,u28],defers:=df} W.drew:= by
    refine wpAnyIn_ready (rs:=[0,1]) (by kernel_rfl) (by simp) ?_
    refine AllReadyIn.cons (o:=⟨some 19,.load 55 (.tmp 3),55,"met.go:47",#[],none⟩) rfl (fun K hK=>?_) ?_
    · exact z0e (v:=.pointer (some ⟨b,0,none⟩)) rfl (by intro c h;cases h) rfl (by have hx:=d3;go_simp) (hK _ _ h101000)
    refine AllReadyIn.cons (o:=⟨some 20,.load 24 (.tmp 8),24,"met.go:47",#[],none⟩) rfl (fun K hK=>?_) ?_
    · exact z0e (v:=.agg (z01 L).toArray) rfl (by intro c h;cases h) rfl (z0I (run_loadAt_mid (P:=Tryz.prog) W.drew b8 0 24 _ _ d8 Tryz.underlying24 rfl (z0f lL))) (hK _ _ h011000)
    exact AllReadyIn.nil
  have h010000:wpAnyIn F n Tryz.prog .any z1C Q 5 #[false,true,false,false,false,false] {tmps:=#[u0,u1,u2,.pointer (some ⟨b3,0,none⟩),u4,u5,.pointer (some ⟨b6,0,none⟩),u7,.pointer (some ⟨b8,0,none⟩),u9,u10,u11,u12,u13,u14,u15,u16,u17,u18,u19,.agg (z01 L).toArray,u21,u22,u23,u24,u25,u26,u27,u28],defers:=df} W.drew:= by
    refine wpAnyIn_ready (rs:=[0,2]) (by kernel_rfl) (by simp) ?_
    refine AllReadyIn.cons (o:=⟨some 19,.load 55 (.tmp 3),55,"met.go:47",#[],none⟩) rfl (fun K hK=>?_) ?_
    · exact z0e (v:=.pointer (some ⟨b,0,none⟩)) rfl (by intro c h;cases h) rfl (by have hx:=d3;go_simp) (hK _ _ h110000)
    refine AllReadyIn.cons (o:=⟨some 21,.load 24 (.tmp 6),24,"met.go:47",#[],none⟩) rfl (fun K hK=>?_) ?_
    · exact z0e (v:=.agg (z01 A).toArray) rfl (by intro c h;cases h) rfl (z0I (run_loadAt_mid (P:=Tryz.prog) W.drew b6 0 24 _ _ d6 Tryz.underlying24 rfl (z0f lA))) (hK _ _ h011000)
    exact AllReadyIn.nil
  have h100000:wpAnyIn F n Tryz.prog .any z1C Q 5 #[true,false,false,false,false,false] {tmps:=#[u0,u1,u2,.pointer (some ⟨b3,0,none⟩),u4,u5,.pointer (some ⟨b6,0,none⟩),u7,.pointer (some ⟨b8,0,none⟩),u9,u10,u11,u12,u13,u14,u15,u16,u17,u18,.pointer (some ⟨b,0,none⟩),u20,u21,u22,u23,u24,u25,u26,u27,u28],defers:=df} W.drew:= by
    refine wpAnyIn_ready (rs:=[1,2]) (by kernel_rfl) (by simp) ?_
    refine AllReadyIn.cons (o:=⟨some 20,.load 24 (.tmp 8),24,"met.go:47",#[],none⟩) rfl (fun K hK=>?_) ?_
    · exact z0e (v:=.agg (z01 L).toArray) rfl (by intro c h;cases h) rfl (z0I (run_loadAt_mid (P:=Tryz.prog) W.drew b8 0 24 _ _ d8 Tryz.underlying24 rfl (z0f lL))) (hK _ _ h110000)
    refine AllReadyIn.cons (o:=⟨some 21,.load 24 (.tmp 6),24,"met.go:47",#[],none⟩) rfl (fun K hK=>?_) ?_
    · exact z0e (v:=.agg (z01 A).toArray) rfl (by intro c h;cases h) rfl (z0I (run_loadAt_mid (P:=Tryz.prog) W.drew b6 0 24 _ _ d6 Tryz.underlying24 rfl (z0f lA))) (hK _ _ h101000)
    exact AllReadyIn.nil
  have h000000:wpAnyIn F n Tryz.prog .any z1C Q 6 #[false,false,false,false,false,false] {tmps:=#[u0,u1,u2,.pointer (some ⟨b3,0,none⟩),u4,u5,.pointer (some ⟨b6,0,none⟩),u7,.pointer (some ⟨b8,0,none⟩),u9,u10,u11,u12,u13,u14,u15,u16,u17,u18,u19,u20,u21,u22,u23,u24,u25,u26,u27,u28],defers:=df} W.drew:= by
    refine wpAnyIn_ready (rs:=[0,1,2]) (by kernel_rfl) (by simp) ?_
    refine AllReadyIn.cons (o:=⟨some 19,.load 55 (.tmp 3),55,"met.go:47",#[],none⟩) rfl (fun K hK=>?_) ?_
    · exact z0e (v:=.pointer (some ⟨b,0,none⟩)) rfl (by intro c h;cases h) rfl (by have hx:=d3;go_simp) (hK _ _ h100000)
    refine AllReadyIn.cons (o:=⟨some 20,.load 24 (.tmp 8),24,"met.go:47",#[],none⟩) rfl (fun K hK=>?_) ?_
    · exact z0e (v:=.agg (z01 L).toArray) rfl (by intro c h;cases h) rfl (z0I (run_loadAt_mid (P:=Tryz.prog) W.drew b8 0 24 _ _ d8 Tryz.underlying24 rfl (z0f lL))) (hK _ _ h010000)
    refine AllReadyIn.cons (o:=⟨some 21,.load 24 (.tmp 6),24,"met.go:47",#[],none⟩) rfl (fun K hK=>?_) ?_
    · exact z0e (v:=.agg (z01 A).toArray) rfl (by intro c h;cases h) rfl (z0I (run_loadAt_mid (P:=Tryz.prog) W.drew b6 0 24 _ _ d6 Tryz.underlying24 rfl (z0f lA))) (hK _ _ h001000)
    exact AllReadyIn.nil
  refine wpIn_region_any (by kernel_rfl) ?_
  exact h000000
end Go.Proofs.YthpdlnbbbcgemaaGreatDoor
