/- Texts of ClashBlocks, one behind the other: HashRegion6. -/
import Derived.Test.YtbmjoiiagldklaaDoorClashBlocksP15
import Derived.Test.YtbmjoiiagldklaaDoorClashBlocksP28
namespace Go.Proofs.YtbmjoiiagldklaaDoor.HX
open Go.RowKit Go.Shelf
set_option maxRecDepth 100000
theorem z2z (g x:Nat) (w:World):(Instr.arrayAt 42 (z0p g x)).run Tryd.prog w=.ok (.pointer (some ⟨g,64*x,none⟩)) w:=by
  simp [Instr.arrayAt,z0p,run_underlying Tryd.underlying42]
theorem zja:∀ w,(zeroValue 76).run Tryd.prog w=.ok (.agg (UARR .u8 96 fun _=>0)) w:=(zero_of_info (P:=Tryd.prog) (n:=96) (by kernel_rfl)).1
theorem z0T (w:World):(Instr.alloc 76 true (.tuple #[])).run Tryd.prog w=.ok (.pointer (some ⟨w.heap.size,0,none⟩)) (w.alloc (.cells (UARR .u8 96 fun _=>0) 76)):=by
  first
    | (simp [Instr.alloc,newVar,newRow,Value.cells];rfl)
    | (simp [Instr.alloc,zja,newVar,newRow,Value.cells];done)
theorem z07 {s:Sem Value} {w w':World} {v:Value} (h:s.run Tryd.prog w=.ok v w'):(do pure (Next.value (← s)):Sem Next).run Tryd.prog w=.ok (.value v) w':=by
  simp [h]
theorem z19 {s:Sem Unit} {w w':World} (h:s.run Tryd.prog w=.ok () w'):(do s;pure Next.skip:Sem Next).run Tryd.prog w=.ok .skip w':=by
  simp [h]
theorem z0c {F:Fence} {n:Nat} {ops:Array Oper} {o:Oper} {a:Act} {w w':World} {K:Act→World→Prop} {Q:Exit→Act→World→Prop} {E:Prop} {v:Value} (hg:o.guard=none) (hd:∀ c,o.op≠.defer c) (hab:o.about Tryd.prog w a.eval=none)
    (hrun:(execOp a.eval o).run Tryd.prog w=.ok (.value v) w') (h:K (a.put o.dst v) w'):if Region.wanted o (yielded ops a.tmps)=true then Oper.wpIn F n Tryd.prog o a w K Q else E:=by
  have hw:Region.wanted o (yielded ops a.tmps)=true:=by simp [Region.wanted,hg]
  rw [if_pos hw]
  refine ⟨fun f hf=>(by rw [hab] at hf;cases hf),?_⟩
  rw [Oper.semAt_eq _ _ _ hd,hrun]
  exact h
theorem z9U {F:Fence} {n:Nat} {ops:Array Oper} {o:Oper} {a:Act} {w w':World} {K:Act→World→Prop} {Q:Exit→Act→World→Prop} {E:Prop} (hg:o.guard=none) (hd:∀ c,o.op≠.defer c) (hab:o.about Tryd.prog w a.eval=none)
    (hrun:(execOp a.eval o).run Tryd.prog w=.ok .skip w') (h:K (a.put o.dst undef) w'):if Region.wanted o (yielded ops a.tmps)=true then Oper.wpIn F n Tryd.prog o a w K Q else E:=by
  have hw:Region.wanted o (yielded ops a.tmps)=true:=by simp [Region.wanted,hg]
  rw [if_pos hw]
  refine ⟨fun f hf=>(by rw [hab] at hf;cases hf),?_⟩
  rw [Oper.semAt_eq _ _ _ hd,hrun]
  exact h
def OPS6:Array Oper:=#[⟨some 26,.load 26 (.tmp 7),26,"descend.go:38",#[],none⟩,⟨some 27,.move (.tmp 8),30,"descend.go:38",#[],none⟩,⟨some 28,.sliceToArrayPointer 42 (.tmp 27),0,"descend.go:38",#[⟨1,.data⟩],none⟩,⟨some 29,.load 42 (.tmp 28),42,"descend.go:38",#[⟨2,.data⟩],none⟩,⟨some 30,.build 76 #[(0,.tmp 26),(1,.tmp 29)],76,"descend.go:38",#[⟨0,.data⟩,⟨3,.data⟩],none⟩,⟨some 9,.alloc 76,0,"descend.go:38",#[],none⟩,⟨none,.store 76 (.tmp 9) (.tmp 30),0,"descend.go:38",#[⟨5,.data⟩,⟨4,.data⟩,⟨0,.phase⟩,⟨1,.phase⟩,⟨2,.phase⟩,⟨3,.phase⟩,⟨4,.phase⟩,⟨5,.phase⟩],none⟩]
set_option maxHeartbeats 1000000 in
theorem zif {F:Fence} {n:Nat} {Q:Exit→Act→World→Prop} (u0 u1 u2 u3 u4 u5 u6 u9 u10 u11 u12 u13 u14 u15 u16 u17 u18 u19 u20 u21 u22 u23 u24 u25 u26 u27 u28 u29 u30 u31 u32 u33 u34 u35 u36 u37 u38 u39 u40 u41:Value) (W:World) (s3 gl j:Nat) (S B X:Nat→Nat)
    (l1:W.rangeAt s3 0 (z09 .u8 32 S)) (l2:W.rangeAt gl (64*j) (z09 .u8 64 B)) (hX:INP S B=X) (h:Q .normal {tmps:=#[u0,u1,u2,u3,u4,u5,u6,.pointer (some ⟨s3,0,none⟩),z0p gl j,.pointer (some ⟨W.heap.size,0,none⟩),u10,u11,u12,u13,u14,u15,u16,u17,u18,u19,u20,u21,u22,u23,u24,u25,.agg (UARR .u8 32 S),z0p gl j,.pointer (some ⟨gl,64*j,none⟩),.agg (UARR .u8 64 B),.agg (UARR .u8 96 X),u31,u32,u33,u34,u35,u36,u37,u38,u39,u40,u41],defers:=[]} (W.drew.alloc (.cells (UARR .u8 96 X) 76))):
    (Code.region 6 OPS6 true).wpIn F n Tryd.prog Q {tmps:=#[u0,u1,u2,u3,u4,u5,u6,.pointer (some ⟨s3,0,none⟩),z0p gl j,u9,u10,u11,u12,u13,u14,u15,u16,u17,u18,u19,u20,u21,u22,u23,u24,u25,u26,u27,u28,u29,u30,u31,u32,u33,u34,u35,u36,u37,u38,u39,u40,u41],defers:=[]} W:=by
  have k1:=fun w (h:w.rangeAt s3 0 (z09 .u8 32 S))=>run_loadAt_mid (P:=Tryd.prog) w s3 0 26 _ _ h Tryd.underlying26 rfl (z1b S)
  have k2:=fun w (h:w.rangeAt gl (64*j) (z09 .u8 64 B))=>run_loadAt_mid (P:=Tryd.prog) w gl (64*j) 42 _ _ h Tryd.underlying42 rfl (z1g B)
  have hbu:=fun W=>run_build (P:=Tryd.prog) W 76 #[(0,.agg (UARR .u8 32 S)),(1,.agg (UARR .u8 64 B))] _ (zan S B)
  rw [hX] at hbu
  have st:=run_storeAt_new (P:=Tryd.prog) W.drew 76 (UARR .u8 96 fun _=>0) (UARR .u8 96 X) (by rw [z06];kernel_rfl) (by rw [z06,z06]) (z0r _ _ _)
  have d1:W.drew.rangeAt s3 0 (z09 .u8 32 S):=(World.rangeAt_drew _ _ _ _).2 l1
  have d2:W.drew.rangeAt gl (64*j) (z09 .u8 64 B):=(World.rangeAt_drew _ _ _ _).2 l2
  have e1:=World.rangeAt_alloc d1 (.cells (UARR .u8 96 fun _=>0) 76)
  have e2:=World.rangeAt_alloc d2 (.cells (UARR .u8 96 fun _=>0) 76)
  have h1111111:wpAnyIn F n Tryd.prog .any OPS6 Q 0 #[true,true,true,true,true,true,true] {tmps:=#[u0,u1,u2,u3,u4,u5,u6,.pointer (some ⟨s3,0,none⟩),z0p gl j,.pointer (some ⟨W.heap.size,0,none⟩),u10,u11,u12,u13,u14,u15,u16,u17,u18,u19,u20,u21,u22,u23,u24,u25,.agg (UARR .u8 32 S),z0p gl j,.pointer (some ⟨gl,64*j,none⟩),.agg (UARR .u8 64 B),.agg (UARR .u8 96 X),u31,u32,u33,u34,u35,u36,u37,u38,u39,u40,u41],defers:=[]} (W.drew.alloc (.cells (UARR .u8 96 X) 76)):=by
    exact wpAnyIn_done (by kernel_rfl) h _
  have h1111110:wpAnyIn F n Tryd.prog .any OPS6 Q 1 #[true,true,true,true,true,true,false] {tmps:=#[u0,u1,u2,u3,u4,u5,u6,.pointer (some ⟨s3,0,none⟩),z0p gl j,.pointer (some ⟨W.heap.size,0,none⟩),u10,u11,u12,u13,u14,u15,u16,u17,u18,u19,u20,u21,u22,u23,u24,u25,.agg (UARR .u8 32 S),z0p gl j,.pointer (some ⟨gl,64*j,none⟩),.agg (UARR .u8 64 B),.agg (UARR .u8 96 X),u31,u32,u33,u34,u35,u36,u37,u38,u39,u40,u41],defers:=[]} (W.drew.alloc (.cells (UARR .u8 96 fun _=>0) 76)):=by
    refine wpAnyIn_ready (rs:=[6]) (by kernel_rfl) (by simp) ?_
    refine AllReadyIn.cons (o:=⟨none,.store 76 (.tmp 9) (.tmp 30),0,"descend.go:38",#[⟨5,.data⟩,⟨4,.data⟩,⟨0,.phase⟩,⟨1,.phase⟩,⟨2,.phase⟩,⟨3,.phase⟩,⟨4,.phase⟩,⟨5,.phase⟩],none⟩) rfl (fun K hK=>z9U rfl (by intro c h;cases h) rfl (z19 st) (hK _ _ h1111111)) ?_
    exact AllReadyIn.nil
  have h1111010:wpAnyIn F n Tryd.prog .any OPS6 Q 2 #[true,true,true,true,false,true,false] {tmps:=#[u0,u1,u2,u3,u4,u5,u6,.pointer (some ⟨s3,0,none⟩),z0p gl j,.pointer (some ⟨W.heap.size,0,none⟩),u10,u11,u12,u13,u14,u15,u16,u17,u18,u19,u20,u21,u22,u23,u24,u25,.agg (UARR .u8 32 S),z0p gl j,.pointer (some ⟨gl,64*j,none⟩),.agg (UARR .u8 64 B),u30,u31,u32,u33,u34,u35,u36,u37,u38,u39,u40,u41],defers:=[]} (W.drew.alloc (.cells (UARR .u8 96 fun _=>0) 76)):=by
    refine wpAnyIn_ready (rs:=[4]) (by kernel_rfl) (by simp) ?_
    refine AllReadyIn.cons (o:=⟨some 30,.build 76 #[(0,.tmp 26),(1,.tmp 29)],76,"descend.go:38",#[⟨0,.data⟩,⟨3,.data⟩],none⟩) rfl (fun K hK=>z0c (v:=.agg (UARR .u8 96 X)) rfl (by intro c h;cases h) rfl (z07 (by rw [List.map_toArray];exact hbu _)) (hK _ _ h1111110)) ?_
    exact AllReadyIn.nil
  have h1111100:wpAnyIn F n Tryd.prog .any OPS6 Q 2 #[true,true,true,true,true,false,false] {tmps:=#[u0,u1,u2,u3,u4,u5,u6,.pointer (some ⟨s3,0,none⟩),z0p gl j,u9,u10,u11,u12,u13,u14,u15,u16,u17,u18,u19,u20,u21,u22,u23,u24,u25,.agg (UARR .u8 32 S),z0p gl j,.pointer (some ⟨gl,64*j,none⟩),.agg (UARR .u8 64 B),.agg (UARR .u8 96 X),u31,u32,u33,u34,u35,u36,u37,u38,u39,u40,u41],defers:=[]} (W.drew):=by
    refine wpAnyIn_ready (rs:=[5]) (by kernel_rfl) (by simp) ?_
    refine AllReadyIn.cons (o:=⟨some 9,.alloc 76,0,"descend.go:38",#[],none⟩) rfl (fun K hK=>z0c (v:=.pointer (some ⟨W.heap.size,0,none⟩)) rfl (by intro c h;cases h) rfl (z07 (z0T _)) (hK _ _ h1111110)) ?_
    exact AllReadyIn.nil
  have h0111010:wpAnyIn F n Tryd.prog .any OPS6 Q 3 #[false,true,true,true,false,true,false] {tmps:=#[u0,u1,u2,u3,u4,u5,u6,.pointer (some ⟨s3,0,none⟩),z0p gl j,.pointer (some ⟨W.heap.size,0,none⟩),u10,u11,u12,u13,u14,u15,u16,u17,u18,u19,u20,u21,u22,u23,u24,u25,u26,z0p gl j,.pointer (some ⟨gl,64*j,none⟩),.agg (UARR .u8 64 B),u30,u31,u32,u33,u34,u35,u36,u37,u38,u39,u40,u41],defers:=[]} (W.drew.alloc (.cells (UARR .u8 96 fun _=>0) 76)):=by
    refine wpAnyIn_ready (rs:=[0]) (by kernel_rfl) (by simp) ?_
    refine AllReadyIn.cons (o:=⟨some 26,.load 26 (.tmp 7),26,"descend.go:38",#[],none⟩) rfl (fun K hK=>z0c (v:=.agg (UARR .u8 32 S)) rfl (by intro c h;cases h) rfl (z07 ((k1 _ e1).trans (by rw [← z0l]))) (hK _ _ h1111010)) ?_
    exact AllReadyIn.nil
  have h1110010:wpAnyIn F n Tryd.prog .any OPS6 Q 3 #[true,true,true,false,false,true,false] {tmps:=#[u0,u1,u2,u3,u4,u5,u6,.pointer (some ⟨s3,0,none⟩),z0p gl j,.pointer (some ⟨W.heap.size,0,none⟩),u10,u11,u12,u13,u14,u15,u16,u17,u18,u19,u20,u21,u22,u23,u24,u25,.agg (UARR .u8 32 S),z0p gl j,.pointer (some ⟨gl,64*j,none⟩),u29,u30,u31,u32,u33,u34,u35,u36,u37,u38,u39,u40,u41],defers:=[]} (W.drew.alloc (.cells (UARR .u8 96 fun _=>0) 76)):=by
    refine wpAnyIn_ready (rs:=[3]) (by kernel_rfl) (by simp) ?_
    refine AllReadyIn.cons (o:=⟨some 29,.load 42 (.tmp 28),42,"descend.go:38",#[⟨2,.data⟩],none⟩) rfl (fun K hK=>z0c (v:=.agg (UARR .u8 64 B)) rfl (by intro c h;cases h) rfl (z07 ((k2 _ e2).trans (by rw [← z0l]))) (hK _ _ h1111010)) ?_
    exact AllReadyIn.nil
  have h1111000:wpAnyIn F n Tryd.prog .any OPS6 Q 3 #[true,true,true,true,false,false,false] {tmps:=#[u0,u1,u2,u3,u4,u5,u6,.pointer (some ⟨s3,0,none⟩),z0p gl j,u9,u10,u11,u12,u13,u14,u15,u16,u17,u18,u19,u20,u21,u22,u23,u24,u25,.agg (UARR .u8 32 S),z0p gl j,.pointer (some ⟨gl,64*j,none⟩),.agg (UARR .u8 64 B),u30,u31,u32,u33,u34,u35,u36,u37,u38,u39,u40,u41],defers:=[]} (W.drew):=by
    refine wpAnyIn_ready (rs:=[4,5]) (by kernel_rfl) (by simp) ?_
    refine AllReadyIn.cons (o:=⟨some 30,.build 76 #[(0,.tmp 26),(1,.tmp 29)],76,"descend.go:38",#[⟨0,.data⟩,⟨3,.data⟩],none⟩) rfl (fun K hK=>z0c (v:=.agg (UARR .u8 96 X)) rfl (by intro c h;cases h) rfl (z07 (by rw [List.map_toArray];exact hbu _)) (hK _ _ h1111100)) ?_
    refine AllReadyIn.cons (o:=⟨some 9,.alloc 76,0,"descend.go:38",#[],none⟩) rfl (fun K hK=>z0c (v:=.pointer (some ⟨W.heap.size,0,none⟩)) rfl (by intro c h;cases h) rfl (z07 (z0T _)) (hK _ _ h1111010)) ?_
    exact AllReadyIn.nil
  have h0110010:wpAnyIn F n Tryd.prog .any OPS6 Q 4 #[false,true,true,false,false,true,false] {tmps:=#[u0,u1,u2,u3,u4,u5,u6,.pointer (some ⟨s3,0,none⟩),z0p gl j,.pointer (some ⟨W.heap.size,0,none⟩),u10,u11,u12,u13,u14,u15,u16,u17,u18,u19,u20,u21,u22,u23,u24,u25,u26,z0p gl j,.pointer (some ⟨gl,64*j,none⟩),u29,u30,u31,u32,u33,u34,u35,u36,u37,u38,u39,u40,u41],defers:=[]} (W.drew.alloc (.cells (UARR .u8 96 fun _=>0) 76)):=by
    refine wpAnyIn_ready (rs:=[0,3]) (by kernel_rfl) (by simp) ?_
    refine AllReadyIn.cons (o:=⟨some 26,.load 26 (.tmp 7),26,"descend.go:38",#[],none⟩) rfl (fun K hK=>z0c (v:=.agg (UARR .u8 32 S)) rfl (by intro c h;cases h) rfl (z07 ((k1 _ e1).trans (by rw [← z0l]))) (hK _ _ h1110010)) ?_
    refine AllReadyIn.cons (o:=⟨some 29,.load 42 (.tmp 28),42,"descend.go:38",#[⟨2,.data⟩],none⟩) rfl (fun K hK=>z0c (v:=.agg (UARR .u8 64 B)) rfl (by intro c h;cases h) rfl (z07 ((k2 _ e2).trans (by rw [← z0l]))) (hK _ _ h0111010)) ?_
    exact AllReadyIn.nil
  have h0111000:wpAnyIn F n Tryd.prog .any OPS6 Q 4 #[false,true,true,true,false,false,false] {tmps:=#[u0,u1,u2,u3,u4,u5,u6,.pointer (some ⟨s3,0,none⟩),z0p gl j,u9,u10,u11,u12,u13,u14,u15,u16,u17,u18,u19,u20,u21,u22,u23,u24,u25,u26,z0p gl j,.pointer (some ⟨gl,64*j,none⟩),.agg (UARR .u8 64 B),u30,u31,u32,u33,u34,u35,u36,u37,u38,u39,u40,u41],defers:=[]} (W.drew):=by
    refine wpAnyIn_ready (rs:=[0,5]) (by kernel_rfl) (by simp) ?_
    refine AllReadyIn.cons (o:=⟨some 26,.load 26 (.tmp 7),26,"descend.go:38",#[],none⟩) rfl (fun K hK=>z0c (v:=.agg (UARR .u8 32 S)) rfl (by intro c h;cases h) rfl (z07 ((k1 _ d1).trans (by rw [← z0l]))) (hK _ _ h1111000)) ?_
    refine AllReadyIn.cons (o:=⟨some 9,.alloc 76,0,"descend.go:38",#[],none⟩) rfl (fun K hK=>z0c (v:=.pointer (some ⟨W.heap.size,0,none⟩)) rfl (by intro c h;cases h) rfl (z07 (z0T _)) (hK _ _ h0111010)) ?_
    exact AllReadyIn.nil
  have h1100010:wpAnyIn F n Tryd.prog .any OPS6 Q 4 #[true,true,false,false,false,true,false] {tmps:=#[u0,u1,u2,u3,u4,u5,u6,.pointer (some ⟨s3,0,none⟩),z0p gl j,.pointer (some ⟨W.heap.size,0,none⟩),u10,u11,u12,u13,u14,u15,u16,u17,u18,u19,u20,u21,u22,u23,u24,u25,.agg (UARR .u8 32 S),z0p gl j,u28,u29,u30,u31,u32,u33,u34,u35,u36,u37,u38,u39,u40,u41],defers:=[]} (W.drew.alloc (.cells (UARR .u8 96 fun _=>0) 76)):=by
    refine wpAnyIn_ready (rs:=[2]) (by kernel_rfl) (by simp) ?_
    refine AllReadyIn.cons (o:=⟨some 28,.sliceToArrayPointer 42 (.tmp 27),0,"descend.go:38",#[⟨1,.data⟩],none⟩) rfl (fun K hK=>z0c (v:=.pointer (some ⟨gl,64*j,none⟩)) rfl (by intro c h;cases h) rfl (z07 (z2z gl j _)) (hK _ _ h1110010)) ?_
    exact AllReadyIn.nil
  have h1110000:wpAnyIn F n Tryd.prog .any OPS6 Q 4 #[true,true,true,false,false,false,false] {tmps:=#[u0,u1,u2,u3,u4,u5,u6,.pointer (some ⟨s3,0,none⟩),z0p gl j,u9,u10,u11,u12,u13,u14,u15,u16,u17,u18,u19,u20,u21,u22,u23,u24,u25,.agg (UARR .u8 32 S),z0p gl j,.pointer (some ⟨gl,64*j,none⟩),u29,u30,u31,u32,u33,u34,u35,u36,u37,u38,u39,u40,u41],defers:=[]} (W.drew):=by
    refine wpAnyIn_ready (rs:=[3,5]) (by kernel_rfl) (by simp) ?_
    refine AllReadyIn.cons (o:=⟨some 29,.load 42 (.tmp 28),42,"descend.go:38",#[⟨2,.data⟩],none⟩) rfl (fun K hK=>z0c (v:=.agg (UARR .u8 64 B)) rfl (by intro c h;cases h) rfl (z07 ((k2 _ d2).trans (by rw [← z0l]))) (hK _ _ h1111000)) ?_
    refine AllReadyIn.cons (o:=⟨some 9,.alloc 76,0,"descend.go:38",#[],none⟩) rfl (fun K hK=>z0c (v:=.pointer (some ⟨W.heap.size,0,none⟩)) rfl (by intro c h;cases h) rfl (z07 (z0T _)) (hK _ _ h1110010)) ?_
    exact AllReadyIn.nil
  have h0100010:wpAnyIn F n Tryd.prog .any OPS6 Q 5 #[false,true,false,false,false,true,false] {tmps:=#[u0,u1,u2,u3,u4,u5,u6,.pointer (some ⟨s3,0,none⟩),z0p gl j,.pointer (some ⟨W.heap.size,0,none⟩),u10,u11,u12,u13,u14,u15,u16,u17,u18,u19,u20,u21,u22,u23,u24,u25,u26,z0p gl j,u28,u29,u30,u31,u32,u33,u34,u35,u36,u37,u38,u39,u40,u41],defers:=[]} (W.drew.alloc (.cells (UARR .u8 96 fun _=>0) 76)):=by
    refine wpAnyIn_ready (rs:=[0,2]) (by kernel_rfl) (by simp) ?_
    refine AllReadyIn.cons (o:=⟨some 26,.load 26 (.tmp 7),26,"descend.go:38",#[],none⟩) rfl (fun K hK=>z0c (v:=.agg (UARR .u8 32 S)) rfl (by intro c h;cases h) rfl (z07 ((k1 _ e1).trans (by rw [← z0l]))) (hK _ _ h1100010)) ?_
    refine AllReadyIn.cons (o:=⟨some 28,.sliceToArrayPointer 42 (.tmp 27),0,"descend.go:38",#[⟨1,.data⟩],none⟩) rfl (fun K hK=>z0c (v:=.pointer (some ⟨gl,64*j,none⟩)) rfl (by intro c h;cases h) rfl (z07 (z2z gl j _)) (hK _ _ h0110010)) ?_
    exact AllReadyIn.nil
  have h0110000:wpAnyIn F n Tryd.prog .any OPS6 Q 5 #[false,true,true,false,false,false,false] {tmps:=#[u0,u1,u2,u3,u4,u5,u6,.pointer (some ⟨s3,0,none⟩),z0p gl j,u9,u10,u11,u12,u13,u14,u15,u16,u17,u18,u19,u20,u21,u22,u23,u24,u25,u26,z0p gl j,.pointer (some ⟨gl,64*j,none⟩),u29,u30,u31,u32,u33,u34,u35,u36,u37,u38,u39,u40,u41],defers:=[]} (W.drew):=by
    refine wpAnyIn_ready (rs:=[0,3,5]) (by kernel_rfl) (by simp) ?_
    refine AllReadyIn.cons (o:=⟨some 26,.load 26 (.tmp 7),26,"descend.go:38",#[],none⟩) rfl (fun K hK=>z0c (v:=.agg (UARR .u8 32 S)) rfl (by intro c h;cases h) rfl (z07 ((k1 _ d1).trans (by rw [← z0l]))) (hK _ _ h1110000)) ?_
    refine AllReadyIn.cons (o:=⟨some 29,.load 42 (.tmp 28),42,"descend.go:38",#[⟨2,.data⟩],none⟩) rfl (fun K hK=>z0c (v:=.agg (UARR .u8 64 B)) rfl (by intro c h;cases h) rfl (z07 ((k2 _ d2).trans (by rw [← z0l]))) (hK _ _ h0111000)) ?_
    refine AllReadyIn.cons (o:=⟨some 9,.alloc 76,0,"descend.go:38",#[],none⟩) rfl (fun K hK=>z0c (v:=.pointer (some ⟨W.heap.size,0,none⟩)) rfl (by intro c h;cases h) rfl (z07 (z0T _)) (hK _ _ h0110010)) ?_
    exact AllReadyIn.nil
  have h1000010:wpAnyIn F n Tryd.prog .any OPS6 Q 5 #[true,false,false,false,false,true,false] {tmps:=#[u0,u1,u2,u3,u4,u5,u6,.pointer (some ⟨s3,0,none⟩),z0p gl j,.pointer (some ⟨W.heap.size,0,none⟩),u10,u11,u12,u13,u14,u15,u16,u17,u18,u19,u20,u21,u22,u23,u24,u25,.agg (UARR .u8 32 S),u27,u28,u29,u30,u31,u32,u33,u34,u35,u36,u37,u38,u39,u40,u41],defers:=[]} (W.drew.alloc (.cells (UARR .u8 96 fun _=>0) 76)):=by
    refine wpAnyIn_ready (rs:=[1]) (by kernel_rfl) (by simp) ?_
    refine AllReadyIn.cons (o:=⟨some 27,.move (.tmp 8),30,"descend.go:38",#[],none⟩) rfl (fun K hK=>z0c (v:=z0p gl j) rfl (by intro c h;cases h) rfl rfl (hK _ _ h1100010)) ?_
    exact AllReadyIn.nil
  have h1100000:wpAnyIn F n Tryd.prog .any OPS6 Q 5 #[true,true,false,false,false,false,false] {tmps:=#[u0,u1,u2,u3,u4,u5,u6,.pointer (some ⟨s3,0,none⟩),z0p gl j,u9,u10,u11,u12,u13,u14,u15,u16,u17,u18,u19,u20,u21,u22,u23,u24,u25,.agg (UARR .u8 32 S),z0p gl j,u28,u29,u30,u31,u32,u33,u34,u35,u36,u37,u38,u39,u40,u41],defers:=[]} (W.drew):=by
    refine wpAnyIn_ready (rs:=[2,5]) (by kernel_rfl) (by simp) ?_
    refine AllReadyIn.cons (o:=⟨some 28,.sliceToArrayPointer 42 (.tmp 27),0,"descend.go:38",#[⟨1,.data⟩],none⟩) rfl (fun K hK=>z0c (v:=.pointer (some ⟨gl,64*j,none⟩)) rfl (by intro c h;cases h) rfl (z07 (z2z gl j _)) (hK _ _ h1110000)) ?_
    refine AllReadyIn.cons (o:=⟨some 9,.alloc 76,0,"descend.go:38",#[],none⟩) rfl (fun K hK=>z0c (v:=.pointer (some ⟨W.heap.size,0,none⟩)) rfl (by intro c h;cases h) rfl (z07 (z0T _)) (hK _ _ h1100010)) ?_
    exact AllReadyIn.nil
  have h0000010:wpAnyIn F n Tryd.prog .any OPS6 Q 6 #[false,false,false,false,false,true,false] {tmps:=#[u0,u1,u2,u3,u4,u5,u6,.pointer (some ⟨s3,0,none⟩),z0p gl j,.pointer (some ⟨W.heap.size,0,none⟩),u10,u11,u12,u13,u14,u15,u16,u17,u18,u19,u20,u21,u22,u23,u24,u25,u26,u27,u28,u29,u30,u31,u32,u33,u34,u35,u36,u37,u38,u39,u40,u41],defers:=[]} (W.drew.alloc (.cells (UARR .u8 96 fun _=>0) 76)):=by
    refine wpAnyIn_ready (rs:=[0,1]) (by kernel_rfl) (by simp) ?_
    refine AllReadyIn.cons (o:=⟨some 26,.load 26 (.tmp 7),26,"descend.go:38",#[],none⟩) rfl (fun K hK=>z0c (v:=.agg (UARR .u8 32 S)) rfl (by intro c h;cases h) rfl (z07 ((k1 _ e1).trans (by rw [← z0l]))) (hK _ _ h1000010)) ?_
    refine AllReadyIn.cons (o:=⟨some 27,.move (.tmp 8),30,"descend.go:38",#[],none⟩) rfl (fun K hK=>z0c (v:=z0p gl j) rfl (by intro c h;cases h) rfl rfl (hK _ _ h0100010)) ?_
    exact AllReadyIn.nil
  have h0100000:wpAnyIn F n Tryd.prog .any OPS6 Q 6 #[false,true,false,false,false,false,false] {tmps:=#[u0,u1,u2,u3,u4,u5,u6,.pointer (some ⟨s3,0,none⟩),z0p gl j,u9,u10,u11,u12,u13,u14,u15,u16,u17,u18,u19,u20,u21,u22,u23,u24,u25,u26,z0p gl j,u28,u29,u30,u31,u32,u33,u34,u35,u36,u37,u38,u39,u40,u41],defers:=[]} (W.drew):=by
    refine wpAnyIn_ready (rs:=[0,2,5]) (by kernel_rfl) (by simp) ?_
    refine AllReadyIn.cons (o:=⟨some 26,.load 26 (.tmp 7),26,"descend.go:38",#[],none⟩) rfl (fun K hK=>z0c (v:=.agg (UARR .u8 32 S)) rfl (by intro c h;cases h) rfl (z07 ((k1 _ d1).trans (by rw [← z0l]))) (hK _ _ h1100000)) ?_
    refine AllReadyIn.cons (o:=⟨some 28,.sliceToArrayPointer 42 (.tmp 27),0,"descend.go:38",#[⟨1,.data⟩],none⟩) rfl (fun K hK=>z0c (v:=.pointer (some ⟨gl,64*j,none⟩)) rfl (by intro c h;cases h) rfl (z07 (z2z gl j _)) (hK _ _ h0110000)) ?_
    refine AllReadyIn.cons (o:=⟨some 9,.alloc 76,0,"descend.go:38",#[],none⟩) rfl (fun K hK=>z0c (v:=.pointer (some ⟨W.heap.size,0,none⟩)) rfl (by intro c h;cases h) rfl (z07 (z0T _)) (hK _ _ h0100010)) ?_
    exact AllReadyIn.nil
  have h1000000:wpAnyIn F n Tryd.prog .any OPS6 Q 6 #[true,false,false,false,false,false,false] {tmps:=#[u0,u1,u2,u3,u4,u5,u6,.pointer (some ⟨s3,0,none⟩),z0p gl j,u9,u10,u11,u12,u13,u14,u15,u16,u17,u18,u19,u20,u21,u22,u23,u24,u25,.agg (UARR .u8 32 S),u27,u28,u29,u30,u31,u32,u33,u34,u35,u36,u37,u38,u39,u40,u41],defers:=[]} (W.drew):=by
    refine wpAnyIn_ready (rs:=[1,5]) (by kernel_rfl) (by simp) ?_
    refine AllReadyIn.cons (o:=⟨some 27,.move (.tmp 8),30,"descend.go:38",#[],none⟩) rfl (fun K hK=>z0c (v:=z0p gl j) rfl (by intro c h;cases h) rfl rfl (hK _ _ h1100000)) ?_
    refine AllReadyIn.cons (o:=⟨some 9,.alloc 76,0,"descend.go:38",#[],none⟩) rfl (fun K hK=>z0c (v:=.pointer (some ⟨W.heap.size,0,none⟩)) rfl (by intro c h;cases h) rfl (z07 (z0T _)) (hK _ _ h1000010)) ?_
    exact AllReadyIn.nil
  have h0000000:wpAnyIn F n Tryd.prog .any OPS6 Q 7 #[false,false,false,false,false,false,false] {tmps:=#[u0,u1,u2,u3,u4,u5,u6,.pointer (some ⟨s3,0,none⟩),z0p gl j,u9,u10,u11,u12,u13,u14,u15,u16,u17,u18,u19,u20,u21,u22,u23,u24,u25,u26,u27,u28,u29,u30,u31,u32,u33,u34,u35,u36,u37,u38,u39,u40,u41],defers:=[]} (W.drew):=by
    refine wpAnyIn_ready (rs:=[0,1,5]) (by kernel_rfl) (by simp) ?_
    refine AllReadyIn.cons (o:=⟨some 26,.load 26 (.tmp 7),26,"descend.go:38",#[],none⟩) rfl (fun K hK=>z0c (v:=.agg (UARR .u8 32 S)) rfl (by intro c h;cases h) rfl (z07 ((k1 _ d1).trans (by rw [← z0l]))) (hK _ _ h1000000)) ?_
    refine AllReadyIn.cons (o:=⟨some 27,.move (.tmp 8),30,"descend.go:38",#[],none⟩) rfl (fun K hK=>z0c (v:=z0p gl j) rfl (by intro c h;cases h) rfl rfl (hK _ _ h0100000)) ?_
    refine AllReadyIn.cons (o:=⟨some 9,.alloc 76,0,"descend.go:38",#[],none⟩) rfl (fun K hK=>z0c (v:=.pointer (some ⟨W.heap.size,0,none⟩)) rfl (by intro c h;cases h) rfl (z07 (z0T _)) (hK _ _ h0000010)) ?_
    exact AllReadyIn.nil
  refine wpIn_region_any (by kernel_rfl) ?_
  exact h0000000
end Go.Proofs.YtbmjoiiagldklaaDoor.HX
