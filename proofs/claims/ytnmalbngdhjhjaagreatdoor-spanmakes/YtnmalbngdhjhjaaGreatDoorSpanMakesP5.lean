/- Texts of SpanMakes, one behind the other: StoreRegions. -/
import Derived.Deep.RegionHeld3
import Derived.Deep.MidRow
import Derived.Test.YtnmalbngdhjhjaaGreatDoorSpanMakesP4
namespace Go.Proofs.YtnmalbngdhjhjaaGreatDoor.HX
open Go.RowKit
set_option maxRecDepth 100000
theorem z07 {s:Sem Value} {w w':World} {v:Value} (h:s.run Tryz.prog w=.ok v w'):(do pure (Next.value (← s)):Sem Next).run Tryz.prog w=.ok (.value v) w':=by
  simp [h]
theorem z1p {s:Sem Unit} {w w':World} (h:s.run Tryz.prog w=.ok () w'):(do s;pure Next.skip:Sem Next).run Tryz.prog w=.ok .skip w':=by
  simp [h]
theorem z1a {ops:Array Oper} {o:Oper} {a:Act} {w w':World} {K:Act→World→Prop} {Q:Exit→Act→World→Prop} {E:Prop} (hg:o.guard=none)
    (hrun:(execOp a.eval o).run Tryz.prog w=.ok .skip w') (h:K (a.put o.dst undef) w'):if Region.wanted o (yielded ops a.tmps)=true then Oper.wp Tryz.prog o a w K Q else E:=by
  have hw:Region.wanted o (yielded ops a.tmps)=true:=by simp [Region.wanted,hg]
  rw [if_pos hw]
  unfold Oper.wp
  rw [hrun]
  exact h
theorem z2J {ops:Array Oper} {Q:Exit→Act→World→Prop} {md:Region.Mode} {S:World→Prop} {fuel:Nat} {listed:Array Bool} {a:Act} {w:World} {o:Oper} (i:Nat) (hr:Region.ready md ops listed=[i]) (ho:ops[i]?=some o)
    (h:∀ K':Act→World→Prop,Shut (∀ a w,S w→(S w→wpAnyH Tryz.prog md ops Q S fuel (listed.setIfInBounds i true) a w)→K' a w)→if Region.wanted o (yielded ops a.tmps)=true then Oper.wp Tryz.prog o a w K' Q else K' (a.put o.dst undef) w):wpAnyH Tryz.prog md ops Q S (fuel+1) listed a w:=
  wpAnyH_ready hr (by simp) (AllReadyH.cons ho h AllReadyH.nil)
theorem zc7 {w:World} {g b o:Nat} {cs:List Value} (h:w.rangeAt b o cs) (hb:b≠g) (c:Array Value):(w.setRow g c).rangeAt b o cs:=fun j v hv=>by
  rw [cell_setRow_other w g c _ hb]
  exact h j v hv
theorem z5S {w:World} {g:Nat} {f:Nat→Nat} (h:Has w g (UARR .u8 32 f) 35) (F:Nat→Nat):(Instr.storeAt 35 (.pointer (some ⟨g,0,none⟩)) (.agg (UARR .u8 32 F))).run Tryz.prog w=.ok () (w.setRow g (UARR .u8 32 F)):=by
  simp only [Instr.storeAt,Instr.sureAddr,Sem.run_bind,Sem.run_pure,Result.andThen]
  exact run_storeVar_row w g 35 35 (UARR .u8 32 f) (UARR .u8 32 F) h (z04 _) (by rw [z03,z03]) (z0j _ _ _)
@[go_sem] def G2OPSq0:Oper:=⟨some 15,.move (.tmp 7),4,"chunk.go:56",#[],none⟩
@[go_sem] def G2OPSq1:Oper:=⟨some 16,.unOp .not 4 (.tmp 15),4,"chunk.go:56",#[⟨0,.data⟩],none⟩
@[go_sem] def G2OPSq2:Oper:=⟨some 17,.move (.tmp 16),4,"chunk.go:56",#[⟨1,.data⟩],none⟩
@[go_sem] def G2OPSq3:Oper:=⟨some 18,.move (.tmp 0),153,"chunk.go:56",#[⟨2,.guard⟩],some (2,false)⟩
@[go_sem] def G2OPSq4:Oper:=⟨some 19,.nilCheck (.tmp 18),0,"chunk.go:56",#[⟨3,.data⟩,⟨2,.guard⟩],some (2,false)⟩
@[go_sem] def G2OPSq5:Oper:=⟨some 20,.fieldAddr 207 (.tmp 19) 0,0,"chunk.go:56",#[⟨4,.data⟩,⟨2,.guard⟩],some (2,false)⟩
@[go_sem] def G2OPSq6:Oper:=⟨some 21,.load 205 (.tmp 20),205,"chunk.go:56",#[⟨5,.data⟩,⟨2,.guard⟩],some (2,false)⟩
@[go_sem] def G2OPSq7:Oper:=⟨some 22,.move (.tmp 6),3,"chunk.go:56",#[⟨2,.guard⟩],some (2,false)⟩
@[go_sem] def G2OPSq8:Oper:=⟨some 23,.indexAddr 205 (.tmp 21) (.tmp 22),0,"chunk.go:56",#[⟨6,.data⟩,⟨7,.data⟩,⟨2,.guard⟩],some (2,false)⟩
@[go_sem] def G2OPSq9:Oper:=⟨some 24,.fieldAddr 213 (.tmp 23) 1,0,"chunk.go:56",#[⟨8,.data⟩,⟨2,.guard⟩],some (2,false)⟩
@[go_sem] def G2OPSq10:Oper:=⟨some 25,.load 24 (.tmp 24),24,"chunk.go:56",#[⟨9,.data⟩,⟨2,.guard⟩],some (2,false)⟩
@[go_sem] def G2OPSq11:Oper:=⟨some 26,.move (.tmp 1),24,"chunk.go:56",#[⟨2,.guard⟩],some (2,false)⟩
@[go_sem] def G2OPSq12:Oper:=⟨some 27,.call {callee:=.value (.func 164),args:=#[.tmp 26],argTypes:=#[24]},24,"chunk.go:56",#[⟨11,.data⟩,⟨2,.chain⟩,⟨2,.guard⟩],some (2,false)⟩
@[go_sem] def G2OPSq13:Oper:=⟨some 28,.binOp .and 24 (.tmp 25) (.tmp 27) 24,24,"chunk.go:56",#[⟨10,.data⟩,⟨12,.data⟩,⟨2,.guard⟩],some (2,false)⟩
@[go_sem] def G2OPSq14:Oper:=⟨some 29,.binOp .eql 24 (.tmp 28) (.const (.int .u64 0)) 24,4,"chunk.go:56",#[⟨13,.data⟩,⟨2,.guard⟩],some (2,false)⟩
@[go_sem] def G2OPSq15:Oper:=⟨some 30,.pick (.tmp 17) (.const (.bool true)) (.tmp 29),4,"chunk.go:56",#[⟨2,.data⟩,⟨14,.data⟩],none⟩
def z5T:Array Oper:=#[G2OPSq0,G2OPSq1,G2OPSq2,G2OPSq3,G2OPSq4,G2OPSq5,G2OPSq6,G2OPSq7,G2OPSq8,G2OPSq9,G2OPSq10,G2OPSq11,G2OPSq12,G2OPSq13,G2OPSq14,G2OPSq15]
set_option maxHeartbeats 2000000 in
theorem get2 {Q:Exit→Act→World→Prop} (u2 u3 u4 u5 u8 u9 u10 u11 u12 u13 u14 u15 u16 u17 u18 u19 u20 u21 u22 u23 u24 u25 u26 u27 u28 u29 u30 u31 u32 u33 u34 u35 u36 u37 u38 u39 u40 u41 u42 u43 u44 u45 u46 u47:Value) (W:World) (g gr n cap i p live bit lb:Nat) (hi:(i:Int)<(n:Int)) (h1:W.cell? ⟨g,0,none⟩=some (.slice (some ⟨gr,0,none⟩) n cap)) (h2:W.cell? ⟨gr,i*3+1,none⟩=some (.int .u64 (live:Int))) (cB:∀ w,Calls Tryz.prog 164 #[.int .u64 (p:Int)] w fun e w'=>e=.returned (.int .u64 (bit:Int))∧w=w') (hbits:bits .and .u64 (live:Int) (bit:Int)=(lb:Int)) (heq:(((lb:Nat):Int) == 0)=decide (lb=0)) (hQ:∀ c (a:Act) (t:Tmp) (v:Value) w,Q (.panic c) (a.put (some t) v) w→Q (.panic c) a w)
    (h:∀ w,(fun w=>w.cell? ⟨g,0,none⟩=some (.slice (some ⟨gr,0,none⟩) n cap)∧w.cell? ⟨gr,i*3+1,none⟩=some (.int .u64 (live:Int))∧Below W.heap.size W w) w→Q .normal {tmps:=#[.pointer (some ⟨g,0,none⟩),.int .u64 (p:Int),u2,u3,u4,u5,.int .i64 (i:Int),.bool true,u8,u9,u10,u11,u12,u13,u14,.bool true,.bool false,.bool false,.pointer (some ⟨g,0,none⟩),.pointer (some ⟨g,0,none⟩),.pointer (some ⟨g,0,none⟩),.slice (some ⟨gr,0,none⟩) n cap,.int .i64 (i:Int),.pointer (some ⟨gr,i*3,none⟩),.pointer (some ⟨gr,i*3+1,none⟩),.int .u64 (live:Int),.int .u64 (p:Int),.int .u64 (bit:Int),.int .u64 (lb:Int),.bool (decide (lb=0)),.bool (decide (lb=0)),u31,u32,u33,u34,u35,u36,u37,u38,u39,u40,u41,u42,u43,u44,u45,u46,u47],defers:=[]} w):(Code.region 2 z5T true).wp Tryz.prog Q {tmps:=#[.pointer (some ⟨g,0,none⟩),.int .u64 (p:Int),u2,u3,u4,u5,.int .i64 (i:Int),.bool true,u8,u9,u10,u11,u12,u13,u14,u15,u16,u17,u18,u19,u20,u21,u22,u23,u24,u25,u26,u27,u28,u29,u30,u31,u32,u33,u34,u35,u36,u37,u38,u39,u40,u41,u42,u43,u44,u45,u46,u47],defers:=[]} W:=by
  have hs0:(fun w=>w.cell? ⟨g,0,none⟩=some (.slice (some ⟨gr,0,none⟩) n cap)∧w.cell? ⟨gr,i*3+1,none⟩=some (.int .u64 (live:Int))∧Below W.heap.size W w) W.drew:=⟨h1,h2,(Below.refl _ _).drew⟩
  have cB':∀ w,(fun w=>w.cell? ⟨g,0,none⟩=some (.slice (some ⟨gr,0,none⟩) n cap)∧w.cell? ⟨gr,i*3+1,none⟩=some (.int .u64 (live:Int))∧Below W.heap.size W w) w→Calls Tryz.prog 164 #[.int .u64 (p:Int)] w fun e w'=>e=.returned (.int .u64 (bit:Int))∧w=w':=fun w _=>cB w
  clear cB
  have k1:∀ w,(fun w=>w.cell? ⟨g,0,none⟩=some (.slice (some ⟨gr,0,none⟩) n cap)∧w.cell? ⟨gr,i*3+1,none⟩=some (.int .u64 (live:Int))∧Below W.heap.size W w) w→wpAnyH Tryz.prog .any z5T Q (fun w=>w.cell? ⟨g,0,none⟩=some (.slice (some ⟨gr,0,none⟩) n cap)∧w.cell? ⟨gr,i*3+1,none⟩=some (.int .u64 (live:Int))∧Below W.heap.size W w) 3 #[true,true,true,true,true,true,true,true,true,true,true,true,true,false,false,false] {tmps:=#[.pointer (some ⟨g,0,none⟩),.int .u64 (p:Int),u2,u3,u4,u5,.int .i64 (i:Int),.bool true,u8,u9,u10,u11,u12,u13,u14,.bool true,.bool false,.bool false,.pointer (some ⟨g,0,none⟩),.pointer (some ⟨g,0,none⟩),.pointer (some ⟨g,0,none⟩),.slice (some ⟨gr,0,none⟩) n cap,.int .i64 (i:Int),.pointer (some ⟨gr,i*3,none⟩),.pointer (some ⟨gr,i*3+1,none⟩),.int .u64 (live:Int),.int .u64 (p:Int),.int .u64 (bit:Int),u28,u29,u30,u31,u32,u33,u34,u35,u36,u37,u38,u39,u40,u41,u42,u43,u44,u45,u46,u47],defers:=[]} w:=fun w hw=>by
    have hww:(fun w=>w.cell? ⟨g,0,none⟩=some (.slice (some ⟨gr,0,none⟩) n cap)∧w.cell? ⟨gr,i*3+1,none⟩=some (.int .u64 (live:Int))∧Below W.heap.size W w) w:=hw
    have last:wpAnyH Tryz.prog .any z5T Q (fun w=>w.cell? ⟨g,0,none⟩=some (.slice (some ⟨gr,0,none⟩) n cap)∧w.cell? ⟨gr,i*3+1,none⟩=some (.int .u64 (live:Int))∧Below W.heap.size W w) 0 #[true,true,true,true,true,true,true,true,true,true,true,true,true,true,true,true] {tmps:=#[.pointer (some ⟨g,0,none⟩),.int .u64 (p:Int),u2,u3,u4,u5,.int .i64 (i:Int),.bool true,u8,u9,u10,u11,u12,u13,u14,.bool true,.bool false,.bool false,.pointer (some ⟨g,0,none⟩),.pointer (some ⟨g,0,none⟩),.pointer (some ⟨g,0,none⟩),.slice (some ⟨gr,0,none⟩) n cap,.int .i64 (i:Int),.pointer (some ⟨gr,i*3,none⟩),.pointer (some ⟨gr,i*3+1,none⟩),.int .u64 (live:Int),.int .u64 (p:Int),.int .u64 (bit:Int),.int .u64 (lb:Int),.bool (decide (lb=0)),.bool (decide (lb=0)),u31,u32,u33,u34,u35,u36,u37,u38,u39,u40,u41,u42,u43,u44,u45,u46,u47],defers:=[]} w:=wpAnyH_done (by kernel_rfl) (h w hw) _
    refine tkP G2OPSq13 (.int .u64 (lb:Int)) 13 hQ hww ?_
    simp only [List.set]
    refine tkP G2OPSq14 (.bool (decide (lb=0))) 14 hQ hww ?_
    simp only [List.set]
    refine tkP G2OPSq15 (.bool (decide (lb=0))) 15 hQ hww ?_
    simp only [List.set]
    exact last
  have k0:∀ w,(fun w=>w.cell? ⟨g,0,none⟩=some (.slice (some ⟨gr,0,none⟩) n cap)∧w.cell? ⟨gr,i*3+1,none⟩=some (.int .u64 (live:Int))∧Below W.heap.size W w) w→wpAnyH Tryz.prog .any z5T Q (fun w=>w.cell? ⟨g,0,none⟩=some (.slice (some ⟨gr,0,none⟩) n cap)∧w.cell? ⟨gr,i*3+1,none⟩=some (.int .u64 (live:Int))∧Below W.heap.size W w) 16 #[false,false,false,false,false,false,false,false,false,false,false,false,false,false,false,false] {tmps:=#[.pointer (some ⟨g,0,none⟩),.int .u64 (p:Int),u2,u3,u4,u5,.int .i64 (i:Int),.bool true,u8,u9,u10,u11,u12,u13,u14,u15,u16,u17,u18,u19,u20,u21,u22,u23,u24,u25,u26,u27,u28,u29,u30,u31,u32,u33,u34,u35,u36,u37,u38,u39,u40,u41,u42,u43,u44,u45,u46,u47],defers:=[]} w:=fun w hw=>by
    have hww:(fun w=>w.cell? ⟨g,0,none⟩=some (.slice (some ⟨gr,0,none⟩) n cap)∧w.cell? ⟨gr,i*3+1,none⟩=some (.int .u64 (live:Int))∧Below W.heap.size W w) w:=hw
    have last:wpAnyH Tryz.prog .any z5T Q (fun w=>w.cell? ⟨g,0,none⟩=some (.slice (some ⟨gr,0,none⟩) n cap)∧w.cell? ⟨gr,i*3+1,none⟩=some (.int .u64 (live:Int))∧Below W.heap.size W w) 4 #[true,true,true,true,true,true,true,true,true,true,true,true,false,false,false,false] {tmps:=#[.pointer (some ⟨g,0,none⟩),.int .u64 (p:Int),u2,u3,u4,u5,.int .i64 (i:Int),.bool true,u8,u9,u10,u11,u12,u13,u14,.bool true,.bool false,.bool false,.pointer (some ⟨g,0,none⟩),.pointer (some ⟨g,0,none⟩),.pointer (some ⟨g,0,none⟩),.slice (some ⟨gr,0,none⟩) n cap,.int .i64 (i:Int),.pointer (some ⟨gr,i*3,none⟩),.pointer (some ⟨gr,i*3+1,none⟩),.int .u64 (live:Int),.int .u64 (p:Int),u27,u28,u29,u30,u31,u32,u33,u34,u35,u36,u37,u38,u39,u40,u41,u42,u43,u44,u45,u46,u47],defers:=[]} w:=by
      refine z2J (o:=G2OPSq12) 12 (by kernel_rfl) rfl (fun K hK=>?_)
      rw [if_pos (by rfl)]
      go_simp
      refine (cB' _ hww).mono ?_
      rintro e w' ⟨rfl,rfl⟩
      exact hK.out _ _ hww (fun _=>k1 w hw)
    refine tkP G2OPSq0 (.bool true) 0 hQ hww ?_
    simp only [List.set]
    refine tkP G2OPSq1 (.bool false) 1 hQ hww ?_
    simp only [List.set]
    refine tkP G2OPSq2 (.bool false) 2 hQ hww ?_
    simp only [List.set]
    refine tkP G2OPSq3 (.pointer (some ⟨g,0,none⟩)) 3 hQ hww ?_
    simp only [List.set]
    refine tkP G2OPSq4 (.pointer (some ⟨g,0,none⟩)) 4 hQ hww ?_
    simp only [List.set]
    refine tkP G2OPSq5 (.pointer (some ⟨g,0,none⟩)) 5 hQ hww ?_
    simp only [List.set]
    refine tkH G2OPSq6 (.slice (some ⟨gr,0,none⟩) n cap) 6 hQ (Or.inl ⟨by rfl,fun w hw=>by have hx:=hw.1;go_simp⟩) hww ?_
    simp only [List.set]
    refine tkP G2OPSq7 (.int .i64 (i:Int)) 7 hQ hww ?_
    simp only [List.set]
    refine tkP G2OPSq8 (.pointer (some ⟨gr,i*3,none⟩)) 8 hQ hww ?_
    simp only [List.set]
    refine tkP G2OPSq9 (.pointer (some ⟨gr,i*3+1,none⟩)) 9 hQ hww ?_
    simp only [List.set]
    refine tkH G2OPSq10 (.int .u64 (live:Int)) 10 hQ (Or.inl ⟨by rfl,fun w hw=>by have hx:=hw.2.1;go_simp⟩) hww ?_
    simp only [List.set]
    refine tkP G2OPSq11 (.int .u64 (p:Int)) 11 hQ hww ?_
    simp only [List.set]
    exact last
  exact wp_region_held_drew (S:=(fun w=>w.cell? ⟨g,0,none⟩=some (.slice (some ⟨gr,0,none⟩) n cap)∧w.cell? ⟨gr,i*3+1,none⟩=some (.int .u64 (live:Int))∧Below W.heap.size W w)) (by kernel_rfl) hs0 (fun _=>k0 _ hs0)
@[go_sem] def G2nOPSq0:Oper:=⟨some 15,.move (.tmp 7),4,"chunk.go:56",#[],none⟩
@[go_sem] def G2nOPSq1:Oper:=⟨some 16,.unOp .not 4 (.tmp 15),4,"chunk.go:56",#[⟨0,.data⟩],none⟩
@[go_sem] def G2nOPSq2:Oper:=⟨some 17,.move (.tmp 16),4,"chunk.go:56",#[⟨1,.data⟩],none⟩
@[go_sem] def G2nOPSq3:Oper:=⟨some 18,.move (.tmp 0),153,"chunk.go:56",#[⟨2,.guard⟩],some (2,false)⟩
@[go_sem] def G2nOPSq4:Oper:=⟨some 19,.nilCheck (.tmp 18),0,"chunk.go:56",#[⟨3,.data⟩,⟨2,.guard⟩],some (2,false)⟩
@[go_sem] def G2nOPSq5:Oper:=⟨some 20,.fieldAddr 207 (.tmp 19) 0,0,"chunk.go:56",#[⟨4,.data⟩,⟨2,.guard⟩],some (2,false)⟩
@[go_sem] def G2nOPSq6:Oper:=⟨some 21,.load 205 (.tmp 20),205,"chunk.go:56",#[⟨5,.data⟩,⟨2,.guard⟩],some (2,false)⟩
@[go_sem] def G2nOPSq7:Oper:=⟨some 22,.move (.tmp 6),3,"chunk.go:56",#[⟨2,.guard⟩],some (2,false)⟩
@[go_sem] def G2nOPSq8:Oper:=⟨some 23,.indexAddr 205 (.tmp 21) (.tmp 22),0,"chunk.go:56",#[⟨6,.data⟩,⟨7,.data⟩,⟨2,.guard⟩],some (2,false)⟩
@[go_sem] def G2nOPSq9:Oper:=⟨some 24,.fieldAddr 213 (.tmp 23) 1,0,"chunk.go:56",#[⟨8,.data⟩,⟨2,.guard⟩],some (2,false)⟩
@[go_sem] def G2nOPSq10:Oper:=⟨some 25,.load 24 (.tmp 24),24,"chunk.go:56",#[⟨9,.data⟩,⟨2,.guard⟩],some (2,false)⟩
@[go_sem] def G2nOPSq11:Oper:=⟨some 26,.move (.tmp 1),24,"chunk.go:56",#[⟨2,.guard⟩],some (2,false)⟩
@[go_sem] def G2nOPSq12:Oper:=⟨some 27,.call {callee:=.value (.func 164),args:=#[.tmp 26],argTypes:=#[24]},24,"chunk.go:56",#[⟨11,.data⟩,⟨2,.chain⟩,⟨2,.guard⟩],some (2,false)⟩
@[go_sem] def G2nOPSq13:Oper:=⟨some 28,.binOp .and 24 (.tmp 25) (.tmp 27) 24,24,"chunk.go:56",#[⟨10,.data⟩,⟨12,.data⟩,⟨2,.guard⟩],some (2,false)⟩
@[go_sem] def G2nOPSq14:Oper:=⟨some 29,.binOp .eql 24 (.tmp 28) (.const (.int .u64 0)) 24,4,"chunk.go:56",#[⟨13,.data⟩,⟨2,.guard⟩],some (2,false)⟩
@[go_sem] def G2nOPSq15:Oper:=⟨some 30,.pick (.tmp 17) (.const (.bool true)) (.tmp 29),4,"chunk.go:56",#[⟨2,.data⟩,⟨14,.data⟩],none⟩
def z7T:Array Oper:=#[G2nOPSq0,G2nOPSq1,G2nOPSq2,G2nOPSq3,G2nOPSq4,G2nOPSq5,G2nOPSq6,G2nOPSq7,G2nOPSq8,G2nOPSq9,G2nOPSq10,G2nOPSq11,G2nOPSq12,G2nOPSq13,G2nOPSq14,G2nOPSq15]
set_option maxHeartbeats 2000000 in
theorem zh9 {Q:Exit→Act→World→Prop} (u2 u3 u4 u5 u6 u8 u9 u10 u11 u12 u13 u14 u15 u16 u17 u18 u19 u20 u21 u22 u23 u24 u25 u26 u27 u28 u29 u30 u31 u32 u33 u34 u35 u36 u37 u38 u39 u40 u41 u42 u43 u44 u45 u46 u47:Value) (W:World) (g p:Nat) (hQ:∀ c (a:Act) (t:Tmp) (v:Value) w,Q (.panic c) (a.put (some t) v) w→Q (.panic c) a w)
    (h:∀ w,(fun w=>w=W.drew) w→Q .normal {tmps:=#[.pointer (some ⟨g,0,none⟩),.int .u64 (p:Int),u2,u3,u4,u5,u6,.bool false,u8,u9,u10,u11,u12,u13,u14,.bool false,.bool true,.bool true,undef,undef,undef,undef,undef,undef,undef,undef,undef,undef,undef,undef,.bool true,u31,u32,u33,u34,u35,u36,u37,u38,u39,u40,u41,u42,u43,u44,u45,u46,u47],defers:=[]} w):(Code.region 2 z7T true).wp Tryz.prog Q {tmps:=#[.pointer (some ⟨g,0,none⟩),.int .u64 (p:Int),u2,u3,u4,u5,u6,.bool false,u8,u9,u10,u11,u12,u13,u14,u15,u16,u17,u18,u19,u20,u21,u22,u23,u24,u25,u26,u27,u28,u29,u30,u31,u32,u33,u34,u35,u36,u37,u38,u39,u40,u41,u42,u43,u44,u45,u46,u47],defers:=[]} W:=by
  have hs0:(fun w=>w=W.drew) W.drew:=rfl
  have k0:∀ w,(fun w=>w=W.drew) w→wpAnyH Tryz.prog .any z7T Q (fun w=>w=W.drew) 16 #[false,false,false,false,false,false,false,false,false,false,false,false,false,false,false,false] {tmps:=#[.pointer (some ⟨g,0,none⟩),.int .u64 (p:Int),u2,u3,u4,u5,u6,.bool false,u8,u9,u10,u11,u12,u13,u14,u15,u16,u17,u18,u19,u20,u21,u22,u23,u24,u25,u26,u27,u28,u29,u30,u31,u32,u33,u34,u35,u36,u37,u38,u39,u40,u41,u42,u43,u44,u45,u46,u47],defers:=[]} w:=fun w hw=>by
    have hww:(fun w=>w=W.drew) w:=hw
    have last:wpAnyH Tryz.prog .any z7T Q (fun w=>w=W.drew) 0 #[true,true,true,true,true,true,true,true,true,true,true,true,true,true,true,true] {tmps:=#[.pointer (some ⟨g,0,none⟩),.int .u64 (p:Int),u2,u3,u4,u5,u6,.bool false,u8,u9,u10,u11,u12,u13,u14,.bool false,.bool true,.bool true,undef,undef,undef,undef,undef,undef,undef,undef,undef,undef,undef,undef,.bool true,u31,u32,u33,u34,u35,u36,u37,u38,u39,u40,u41,u42,u43,u44,u45,u46,u47],defers:=[]} w:=wpAnyH_done (by kernel_rfl) (h w hw) _
    refine tkP G2nOPSq0 (.bool false) 0 hQ hww ?_
    simp only [List.set]
    refine tkP G2nOPSq1 (.bool true) 1 hQ hww ?_
    simp only [List.set]
    refine tkP G2nOPSq2 (.bool true) 2 hQ hww ?_
    simp only [List.set]
    refine tkH G2nOPSq3 undef 3 hQ (Or.inr ⟨by rfl,rfl⟩) hww ?_
    simp only [List.set]
    refine tkH G2nOPSq4 undef 4 hQ (Or.inr ⟨by rfl,rfl⟩) hww ?_
    simp only [List.set]
    refine tkH G2nOPSq5 undef 5 hQ (Or.inr ⟨by rfl,rfl⟩) hww ?_
    simp only [List.set]
    refine tkH G2nOPSq6 undef 6 hQ (Or.inr ⟨by rfl,rfl⟩) hww ?_
    simp only [List.set]
    refine tkH G2nOPSq7 undef 7 hQ (Or.inr ⟨by rfl,rfl⟩) hww ?_
    simp only [List.set]
    refine tkH G2nOPSq8 undef 8 hQ (Or.inr ⟨by rfl,rfl⟩) hww ?_
    simp only [List.set]
    refine tkH G2nOPSq9 undef 9 hQ (Or.inr ⟨by rfl,rfl⟩) hww ?_
    simp only [List.set]
    refine tkH G2nOPSq10 undef 10 hQ (Or.inr ⟨by rfl,rfl⟩) hww ?_
    simp only [List.set]
    refine tkH G2nOPSq11 undef 11 hQ (Or.inr ⟨by rfl,rfl⟩) hww ?_
    simp only [List.set]
    refine tkH G2nOPSq12 undef 12 hQ (Or.inr ⟨by rfl,rfl⟩) hww ?_
    simp only [List.set]
    refine tkH G2nOPSq13 undef 13 hQ (Or.inr ⟨by rfl,rfl⟩) hww ?_
    simp only [List.set]
    refine tkH G2nOPSq14 undef 14 hQ (Or.inr ⟨by rfl,rfl⟩) hww ?_
    simp only [List.set]
    refine tkP G2nOPSq15 (.bool true) 15 hQ hww ?_
    simp only [List.set]
    exact last
  exact wp_region_held_drew (S:=(fun w=>w=W.drew)) (by kernel_rfl) hs0 (fun _=>k0 _ hs0)
@[go_sem] def G5OPSq0:Oper:=⟨some 38,.move (.tmp 8),211,"chunk.go:60",#[],none⟩
@[go_sem] def G5OPSq1:Oper:=⟨some 39,.nilCheck (.tmp 38),0,"chunk.go:60",#[⟨0,.data⟩],none⟩
@[go_sem] def G5OPSq2:Oper:=⟨some 40,.fieldAddr 213 (.tmp 39) 2,0,"chunk.go:60",#[⟨1,.data⟩],none⟩
@[go_sem] def G5OPSq3:Oper:=⟨some 41,.load 22 (.tmp 40),22,"chunk.go:60",#[⟨2,.data⟩],none⟩
@[go_sem] def G5OPSq4:Oper:=⟨some 42,.move (.tmp 8),211,"chunk.go:60",#[],none⟩
@[go_sem] def G5OPSq5:Oper:=⟨some 43,.move (.tmp 1),24,"chunk.go:60",#[],none⟩
@[go_sem] def G5OPSq6:Oper:=⟨some 44,.call {callee:=.value (.func 164),args:=#[.tmp 43],argTypes:=#[24]},24,"chunk.go:60",#[⟨5,.data⟩],none⟩
@[go_sem] def G5OPSq7:Oper:=⟨some 45,.call {callee:=.value (.func 163),args:=#[.tmp 42,.tmp 44],argTypes:=#[211,24]},3,"chunk.go:60",#[⟨4,.data⟩,⟨6,.data⟩,⟨6,.chain⟩],none⟩
@[go_sem] def G5OPSq8:Oper:=⟨some 46,.indexAddr 22 (.tmp 41) (.tmp 45),0,"chunk.go:60",#[⟨3,.data⟩,⟨7,.data⟩],none⟩
@[go_sem] def G5OPSq9:Oper:=⟨some 47,.load 35 (.tmp 46),35,"chunk.go:60",#[⟨8,.data⟩],none⟩
@[go_sem] def G5OPSq10:Oper:=⟨none,.store 35 (.tmp 4) (.tmp 47),0,"chunk.go:60",#[⟨9,.data⟩,⟨7,.chain⟩,⟨0,.phase⟩,⟨1,.phase⟩,⟨2,.phase⟩,⟨3,.phase⟩,⟨4,.phase⟩,⟨5,.phase⟩,⟨6,.phase⟩,⟨7,.phase⟩,⟨8,.phase⟩,⟨9,.phase⟩],none⟩
@[go_sem] def G5OPSq11:Oper:=⟨some 5,.assign (.const (.bool true)),4,"chunk.go:60",#[⟨10,.chain⟩,⟨0,.phase⟩,⟨1,.phase⟩,⟨2,.phase⟩,⟨3,.phase⟩,⟨4,.phase⟩,⟨5,.phase⟩,⟨6,.phase⟩,⟨7,.phase⟩,⟨8,.phase⟩,⟨9,.phase⟩,⟨10,.phase⟩],none⟩
def z2x:Array Oper:=#[G5OPSq0,G5OPSq1,G5OPSq2,G5OPSq3,G5OPSq4,G5OPSq5,G5OPSq6,G5OPSq7,G5OPSq8,G5OPSq9,G5OPSq10,G5OPSq11]
set_option maxHeartbeats 2000000 in
theorem get5 {Q:Exit→Act→World→Prop} (u0 u2 u3 u5 u6 u7 u9 u10 u11 u12 u13 u14 u15 u16 u17 u18 u19 u20 u21 u22 u23 u24 u25 u26 u27 u28 u29 u30 u31 u32 u33 u34 u35 u36 u37 u38 u39 u40 u41 u42 u43 u44 u45 u46 u47:Value) (W:World) (B gr i p live bit m ch gh k r4:Nat) (H z:Nat→Nat) (hk:(k:Int)<(m:Int)) (h1:W.cell? ⟨gr,i*3+1,none⟩=some (.int .u64 (live:Int))) (h2:W.cell? ⟨gr,i*3+2,none⟩=some (.slice (some ⟨gh,0,none⟩) m ch)) (h3:W.rangeAt gh (k*32) (z05 .u8 32 H)) (h4:Has W r4 (UARR .u8 32 z) 35) (n1:gr≠r4) (n2:gh≠r4) (n3:B≤r4) (cB:∀ w,Calls Tryz.prog 164 #[.int .u64 (p:Int)] w fun e w'=>e=.returned (.int .u64 (bit:Int))∧w=w') (cR:∀ w,w.cell? ⟨gr,i*3+1,none⟩=some (.int .u64 (live:Int))→Calls Tryz.prog 163 #[.pointer (some ⟨gr,i*3,none⟩),.int .u64 (bit:Int)] w fun e w'=>e=.returned (.int .i64 (k:Int))∧w=w') (hQ:∀ c (a:Act) (t:Tmp) (v:Value) w,Q (.panic c) (a.put (some t) v) w→Q (.panic c) a w)
    (h:∀ w,(fun w=>w.cell? ⟨gr,i*3+1,none⟩=some (.int .u64 (live:Int))∧w.cell? ⟨gr,i*3+2,none⟩=some (.slice (some ⟨gh,0,none⟩) m ch)∧w.rangeAt gh (k*32) (z05 .u8 32 H)∧Below B W w∧∃ z,Has w r4 (UARR .u8 32 z) 35) w→Q .normal {tmps:=#[u0,.int .u64 (p:Int),u2,u3,.pointer (some ⟨r4,0,none⟩),.bool true,u6,u7,.pointer (some ⟨gr,i*3,none⟩),u9,u10,u11,u12,u13,u14,u15,u16,u17,u18,u19,u20,u21,u22,u23,u24,u25,u26,u27,u28,u29,u30,u31,u32,u33,u34,u35,u36,u37,.pointer (some ⟨gr,i*3,none⟩),.pointer (some ⟨gr,i*3,none⟩),.pointer (some ⟨gr,i*3+2,none⟩),.slice (some ⟨gh,0,none⟩) m ch,.pointer (some ⟨gr,i*3,none⟩),.int .u64 (p:Int),.int .u64 (bit:Int),.int .i64 (k:Int),.pointer (some ⟨gh,k*32,none⟩),.agg (UARR .u8 32 H)],defers:=[]} (World.setRow w r4 (UARR .u8 32 H))):(Code.region 5 z2x true).wp Tryz.prog Q {tmps:=#[u0,.int .u64 (p:Int),u2,u3,.pointer (some ⟨r4,0,none⟩),u5,u6,u7,.pointer (some ⟨gr,i*3,none⟩),u9,u10,u11,u12,u13,u14,u15,u16,u17,u18,u19,u20,u21,u22,u23,u24,u25,u26,u27,u28,u29,u30,u31,u32,u33,u34,u35,u36,u37,u38,u39,u40,u41,u42,u43,u44,u45,u46,u47],defers:=[]} W:=by
  have hs0:(fun w=>w.cell? ⟨gr,i*3+1,none⟩=some (.int .u64 (live:Int))∧w.cell? ⟨gr,i*3+2,none⟩=some (.slice (some ⟨gh,0,none⟩) m ch)∧w.rangeAt gh (k*32) (z05 .u8 32 H)∧Below B W w∧∃ z,Has w r4 (UARR .u8 32 z) 35) W.drew:=⟨h1,h2,(World.rangeAt_drew _ _ _ _).2 h3,(Below.refl _ _).drew,z,h4⟩
  have cB':∀ w,(fun w=>w.cell? ⟨gr,i*3+1,none⟩=some (.int .u64 (live:Int))∧w.cell? ⟨gr,i*3+2,none⟩=some (.slice (some ⟨gh,0,none⟩) m ch)∧w.rangeAt gh (k*32) (z05 .u8 32 H)∧Below B W w∧∃ z,Has w r4 (UARR .u8 32 z) 35) w→Calls Tryz.prog 164 #[.int .u64 (p:Int)] w fun e w'=>e=.returned (.int .u64 (bit:Int))∧w=w':=fun w _=>cB w
  have cR':∀ w,(fun w=>w.cell? ⟨gr,i*3+1,none⟩=some (.int .u64 (live:Int))∧w.cell? ⟨gr,i*3+2,none⟩=some (.slice (some ⟨gh,0,none⟩) m ch)∧w.rangeAt gh (k*32) (z05 .u8 32 H)∧Below B W w∧∃ z,Has w r4 (UARR .u8 32 z) 35) w→Calls Tryz.prog 163 #[.pointer (some ⟨gr,i*3,none⟩),.int .u64 (bit:Int)] w fun e w'=>e=.returned (.int .i64 (k:Int))∧w=w':=fun w h=>cR w h.1
  have rS:∀ w,(fun w=>w.cell? ⟨gr,i*3+1,none⟩=some (.int .u64 (live:Int))∧w.cell? ⟨gr,i*3+2,none⟩=some (.slice (some ⟨gh,0,none⟩) m ch)∧w.rangeAt gh (k*32) (z05 .u8 32 H)∧Below B W w∧∃ z,Has w r4 (UARR .u8 32 z) 35) w→(Instr.storeAt 35 (.pointer (some ⟨r4,0,none⟩)) (.agg (UARR .u8 32 H))).run Tryz.prog w=.ok () (World.setRow w r4 (UARR .u8 32 H)):=fun w h=>by obtain ⟨z,hz⟩:=h.2.2.2.2;exact z5S hz H
  have kS:∀ w,(fun w=>w.cell? ⟨gr,i*3+1,none⟩=some (.int .u64 (live:Int))∧w.cell? ⟨gr,i*3+2,none⟩=some (.slice (some ⟨gh,0,none⟩) m ch)∧w.rangeAt gh (k*32) (z05 .u8 32 H)∧Below B W w∧∃ z,Has w r4 (UARR .u8 32 z) 35) w→(fun w=>w.cell? ⟨gr,i*3+1,none⟩=some (.int .u64 (live:Int))∧w.cell? ⟨gr,i*3+2,none⟩=some (.slice (some ⟨gh,0,none⟩) m ch)∧w.rangeAt gh (k*32) (z05 .u8 32 H)∧Below B W w∧∃ z,Has w r4 (UARR .u8 32 z) 35) (World.setRow w r4 (UARR .u8 32 H)):=fun w h=>⟨(cell_setRow_other w r4 _ _ n1).trans h.1,(cell_setRow_other w r4 _ _ n1).trans h.2.1,zc7 h.2.2.1 n2 _,z0d h.2.2.2.1 n3 _,H,by obtain ⟨z,hz⟩:=h.2.2.2.2;exact hz.row _⟩
  clear cB cR
  have k3:∀ w,(fun w=>w.cell? ⟨gr,i*3+1,none⟩=some (.int .u64 (live:Int))∧w.cell? ⟨gr,i*3+2,none⟩=some (.slice (some ⟨gh,0,none⟩) m ch)∧w.rangeAt gh (k*32) (z05 .u8 32 H)∧Below B W w∧∃ z,Has w r4 (UARR .u8 32 z) 35) w→wpAnyH Tryz.prog .any z2x Q (fun w=>w.cell? ⟨gr,i*3+1,none⟩=some (.int .u64 (live:Int))∧w.cell? ⟨gr,i*3+2,none⟩=some (.slice (some ⟨gh,0,none⟩) m ch)∧w.rangeAt gh (k*32) (z05 .u8 32 H)∧Below B W w∧∃ z,Has w r4 (UARR .u8 32 z) 35) 1 #[true,true,true,true,true,true,true,true,true,true,true,false] {tmps:=#[u0,.int .u64 (p:Int),u2,u3,.pointer (some ⟨r4,0,none⟩),u5,u6,u7,.pointer (some ⟨gr,i*3,none⟩),u9,u10,u11,u12,u13,u14,u15,u16,u17,u18,u19,u20,u21,u22,u23,u24,u25,u26,u27,u28,u29,u30,u31,u32,u33,u34,u35,u36,u37,.pointer (some ⟨gr,i*3,none⟩),.pointer (some ⟨gr,i*3,none⟩),.pointer (some ⟨gr,i*3+2,none⟩),.slice (some ⟨gh,0,none⟩) m ch,.pointer (some ⟨gr,i*3,none⟩),.int .u64 (p:Int),.int .u64 (bit:Int),.int .i64 (k:Int),.pointer (some ⟨gh,k*32,none⟩),.agg (UARR .u8 32 H)],defers:=[]} (World.setRow w r4 (UARR .u8 32 H)):=fun w hw=>by
    have hww:(fun w=>w.cell? ⟨gr,i*3+1,none⟩=some (.int .u64 (live:Int))∧w.cell? ⟨gr,i*3+2,none⟩=some (.slice (some ⟨gh,0,none⟩) m ch)∧w.rangeAt gh (k*32) (z05 .u8 32 H)∧Below B W w∧∃ z,Has w r4 (UARR .u8 32 z) 35) (World.setRow w r4 (UARR .u8 32 H)):=(kS _ hw)
    have last:wpAnyH Tryz.prog .any z2x Q (fun w=>w.cell? ⟨gr,i*3+1,none⟩=some (.int .u64 (live:Int))∧w.cell? ⟨gr,i*3+2,none⟩=some (.slice (some ⟨gh,0,none⟩) m ch)∧w.rangeAt gh (k*32) (z05 .u8 32 H)∧Below B W w∧∃ z,Has w r4 (UARR .u8 32 z) 35) 0 #[true,true,true,true,true,true,true,true,true,true,true,true] {tmps:=#[u0,.int .u64 (p:Int),u2,u3,.pointer (some ⟨r4,0,none⟩),.bool true,u6,u7,.pointer (some ⟨gr,i*3,none⟩),u9,u10,u11,u12,u13,u14,u15,u16,u17,u18,u19,u20,u21,u22,u23,u24,u25,u26,u27,u28,u29,u30,u31,u32,u33,u34,u35,u36,u37,.pointer (some ⟨gr,i*3,none⟩),.pointer (some ⟨gr,i*3,none⟩),.pointer (some ⟨gr,i*3+2,none⟩),.slice (some ⟨gh,0,none⟩) m ch,.pointer (some ⟨gr,i*3,none⟩),.int .u64 (p:Int),.int .u64 (bit:Int),.int .i64 (k:Int),.pointer (some ⟨gh,k*32,none⟩),.agg (UARR .u8 32 H)],defers:=[]} (World.setRow w r4 (UARR .u8 32 H)):=wpAnyH_done (by kernel_rfl) (h w hw) _
    refine tkP G5OPSq11 (.bool true) 11 hQ hww ?_
    simp only [List.set]
    exact last
  have k2:∀ w,(fun w=>w.cell? ⟨gr,i*3+1,none⟩=some (.int .u64 (live:Int))∧w.cell? ⟨gr,i*3+2,none⟩=some (.slice (some ⟨gh,0,none⟩) m ch)∧w.rangeAt gh (k*32) (z05 .u8 32 H)∧Below B W w∧∃ z,Has w r4 (UARR .u8 32 z) 35) w→wpAnyH Tryz.prog .any z2x Q (fun w=>w.cell? ⟨gr,i*3+1,none⟩=some (.int .u64 (live:Int))∧w.cell? ⟨gr,i*3+2,none⟩=some (.slice (some ⟨gh,0,none⟩) m ch)∧w.rangeAt gh (k*32) (z05 .u8 32 H)∧Below B W w∧∃ z,Has w r4 (UARR .u8 32 z) 35) 4 #[true,true,true,true,true,true,true,true,false,false,false,false] {tmps:=#[u0,.int .u64 (p:Int),u2,u3,.pointer (some ⟨r4,0,none⟩),u5,u6,u7,.pointer (some ⟨gr,i*3,none⟩),u9,u10,u11,u12,u13,u14,u15,u16,u17,u18,u19,u20,u21,u22,u23,u24,u25,u26,u27,u28,u29,u30,u31,u32,u33,u34,u35,u36,u37,.pointer (some ⟨gr,i*3,none⟩),.pointer (some ⟨gr,i*3,none⟩),.pointer (some ⟨gr,i*3+2,none⟩),.slice (some ⟨gh,0,none⟩) m ch,.pointer (some ⟨gr,i*3,none⟩),.int .u64 (p:Int),.int .u64 (bit:Int),.int .i64 (k:Int),u46,u47],defers:=[]} w:=fun w hw=>by
    have hww:(fun w=>w.cell? ⟨gr,i*3+1,none⟩=some (.int .u64 (live:Int))∧w.cell? ⟨gr,i*3+2,none⟩=some (.slice (some ⟨gh,0,none⟩) m ch)∧w.rangeAt gh (k*32) (z05 .u8 32 H)∧Below B W w∧∃ z,Has w r4 (UARR .u8 32 z) 35) w:=hw
    have last:wpAnyH Tryz.prog .any z2x Q (fun w=>w.cell? ⟨gr,i*3+1,none⟩=some (.int .u64 (live:Int))∧w.cell? ⟨gr,i*3+2,none⟩=some (.slice (some ⟨gh,0,none⟩) m ch)∧w.rangeAt gh (k*32) (z05 .u8 32 H)∧Below B W w∧∃ z,Has w r4 (UARR .u8 32 z) 35) 2 #[true,true,true,true,true,true,true,true,true,true,false,false] {tmps:=#[u0,.int .u64 (p:Int),u2,u3,.pointer (some ⟨r4,0,none⟩),u5,u6,u7,.pointer (some ⟨gr,i*3,none⟩),u9,u10,u11,u12,u13,u14,u15,u16,u17,u18,u19,u20,u21,u22,u23,u24,u25,u26,u27,u28,u29,u30,u31,u32,u33,u34,u35,u36,u37,.pointer (some ⟨gr,i*3,none⟩),.pointer (some ⟨gr,i*3,none⟩),.pointer (some ⟨gr,i*3+2,none⟩),.slice (some ⟨gh,0,none⟩) m ch,.pointer (some ⟨gr,i*3,none⟩),.int .u64 (p:Int),.int .u64 (bit:Int),.int .i64 (k:Int),.pointer (some ⟨gh,k*32,none⟩),.agg (UARR .u8 32 H)],defers:=[]} w:=by
      refine z2J (o:=G5OPSq10) 10 (by kernel_rfl) rfl (fun K hK=>?_)
      exact z1a rfl (z1p (rS _ hww)) (hK.out _ _ (kS _ hww) (fun _=>k3 w hw))
    refine tkP G5OPSq8 (.pointer (some ⟨gh,k*32,none⟩)) 8 hQ hww ?_
    simp only [List.set]
    refine tkH G5OPSq9 (.agg (UARR .u8 32 H)) 9 hQ (yieldsIf_load_mid (by rfl) 35 (.tmp 46) rfl gh (k*32) rfl (z05 .u8 32 H) _ (fun w h=>h.2.2.1) Tryz.underlying35 rfl (by rw [z09];exact z0H)) hww ?_
    simp only [List.set]
    exact last
  have k1:∀ w,(fun w=>w.cell? ⟨gr,i*3+1,none⟩=some (.int .u64 (live:Int))∧w.cell? ⟨gr,i*3+2,none⟩=some (.slice (some ⟨gh,0,none⟩) m ch)∧w.rangeAt gh (k*32) (z05 .u8 32 H)∧Below B W w∧∃ z,Has w r4 (UARR .u8 32 z) 35) w→wpAnyH Tryz.prog .any z2x Q (fun w=>w.cell? ⟨gr,i*3+1,none⟩=some (.int .u64 (live:Int))∧w.cell? ⟨gr,i*3+2,none⟩=some (.slice (some ⟨gh,0,none⟩) m ch)∧w.rangeAt gh (k*32) (z05 .u8 32 H)∧Below B W w∧∃ z,Has w r4 (UARR .u8 32 z) 35) 5 #[true,true,true,true,true,true,true,false,false,false,false,false] {tmps:=#[u0,.int .u64 (p:Int),u2,u3,.pointer (some ⟨r4,0,none⟩),u5,u6,u7,.pointer (some ⟨gr,i*3,none⟩),u9,u10,u11,u12,u13,u14,u15,u16,u17,u18,u19,u20,u21,u22,u23,u24,u25,u26,u27,u28,u29,u30,u31,u32,u33,u34,u35,u36,u37,.pointer (some ⟨gr,i*3,none⟩),.pointer (some ⟨gr,i*3,none⟩),.pointer (some ⟨gr,i*3+2,none⟩),.slice (some ⟨gh,0,none⟩) m ch,.pointer (some ⟨gr,i*3,none⟩),.int .u64 (p:Int),.int .u64 (bit:Int),u45,u46,u47],defers:=[]} w:=fun w hw=>by
    have hww:(fun w=>w.cell? ⟨gr,i*3+1,none⟩=some (.int .u64 (live:Int))∧w.cell? ⟨gr,i*3+2,none⟩=some (.slice (some ⟨gh,0,none⟩) m ch)∧w.rangeAt gh (k*32) (z05 .u8 32 H)∧Below B W w∧∃ z,Has w r4 (UARR .u8 32 z) 35) w:=hw
    have last:wpAnyH Tryz.prog .any z2x Q (fun w=>w.cell? ⟨gr,i*3+1,none⟩=some (.int .u64 (live:Int))∧w.cell? ⟨gr,i*3+2,none⟩=some (.slice (some ⟨gh,0,none⟩) m ch)∧w.rangeAt gh (k*32) (z05 .u8 32 H)∧Below B W w∧∃ z,Has w r4 (UARR .u8 32 z) 35) 5 #[true,true,true,true,true,true,true,false,false,false,false,false] {tmps:=#[u0,.int .u64 (p:Int),u2,u3,.pointer (some ⟨r4,0,none⟩),u5,u6,u7,.pointer (some ⟨gr,i*3,none⟩),u9,u10,u11,u12,u13,u14,u15,u16,u17,u18,u19,u20,u21,u22,u23,u24,u25,u26,u27,u28,u29,u30,u31,u32,u33,u34,u35,u36,u37,.pointer (some ⟨gr,i*3,none⟩),.pointer (some ⟨gr,i*3,none⟩),.pointer (some ⟨gr,i*3+2,none⟩),.slice (some ⟨gh,0,none⟩) m ch,.pointer (some ⟨gr,i*3,none⟩),.int .u64 (p:Int),.int .u64 (bit:Int),u45,u46,u47],defers:=[]} w:=by
      refine z2J (o:=G5OPSq7) 7 (by kernel_rfl) rfl (fun K hK=>?_)
      rw [if_pos (by rfl)]
      go_simp
      refine (cR' _ hww).mono ?_
      rintro e w' ⟨rfl,rfl⟩
      exact hK.out _ _ hww (fun _=>k2 w hw)
    exact last
  have k0:∀ w,(fun w=>w.cell? ⟨gr,i*3+1,none⟩=some (.int .u64 (live:Int))∧w.cell? ⟨gr,i*3+2,none⟩=some (.slice (some ⟨gh,0,none⟩) m ch)∧w.rangeAt gh (k*32) (z05 .u8 32 H)∧Below B W w∧∃ z,Has w r4 (UARR .u8 32 z) 35) w→wpAnyH Tryz.prog .any z2x Q (fun w=>w.cell? ⟨gr,i*3+1,none⟩=some (.int .u64 (live:Int))∧w.cell? ⟨gr,i*3+2,none⟩=some (.slice (some ⟨gh,0,none⟩) m ch)∧w.rangeAt gh (k*32) (z05 .u8 32 H)∧Below B W w∧∃ z,Has w r4 (UARR .u8 32 z) 35) 12 #[false,false,false,false,false,false,false,false,false,false,false,false] {tmps:=#[u0,.int .u64 (p:Int),u2,u3,.pointer (some ⟨r4,0,none⟩),u5,u6,u7,.pointer (some ⟨gr,i*3,none⟩),u9,u10,u11,u12,u13,u14,u15,u16,u17,u18,u19,u20,u21,u22,u23,u24,u25,u26,u27,u28,u29,u30,u31,u32,u33,u34,u35,u36,u37,u38,u39,u40,u41,u42,u43,u44,u45,u46,u47],defers:=[]} w:=fun w hw=>by
    have hww:(fun w=>w.cell? ⟨gr,i*3+1,none⟩=some (.int .u64 (live:Int))∧w.cell? ⟨gr,i*3+2,none⟩=some (.slice (some ⟨gh,0,none⟩) m ch)∧w.rangeAt gh (k*32) (z05 .u8 32 H)∧Below B W w∧∃ z,Has w r4 (UARR .u8 32 z) 35) w:=hw
    have last:wpAnyH Tryz.prog .any z2x Q (fun w=>w.cell? ⟨gr,i*3+1,none⟩=some (.int .u64 (live:Int))∧w.cell? ⟨gr,i*3+2,none⟩=some (.slice (some ⟨gh,0,none⟩) m ch)∧w.rangeAt gh (k*32) (z05 .u8 32 H)∧Below B W w∧∃ z,Has w r4 (UARR .u8 32 z) 35) 6 #[true,true,true,true,true,true,false,false,false,false,false,false] {tmps:=#[u0,.int .u64 (p:Int),u2,u3,.pointer (some ⟨r4,0,none⟩),u5,u6,u7,.pointer (some ⟨gr,i*3,none⟩),u9,u10,u11,u12,u13,u14,u15,u16,u17,u18,u19,u20,u21,u22,u23,u24,u25,u26,u27,u28,u29,u30,u31,u32,u33,u34,u35,u36,u37,.pointer (some ⟨gr,i*3,none⟩),.pointer (some ⟨gr,i*3,none⟩),.pointer (some ⟨gr,i*3+2,none⟩),.slice (some ⟨gh,0,none⟩) m ch,.pointer (some ⟨gr,i*3,none⟩),.int .u64 (p:Int),u44,u45,u46,u47],defers:=[]} w:=by
      refine z2J (o:=G5OPSq6) 6 (by kernel_rfl) rfl (fun K hK=>?_)
      rw [if_pos (by rfl)]
      go_simp
      refine (cB' _ hww).mono ?_
      rintro e w' ⟨rfl,rfl⟩
      exact hK.out _ _ hww (fun _=>k1 w hw)
    refine tkP G5OPSq0 (.pointer (some ⟨gr,i*3,none⟩)) 0 hQ hww ?_
    simp only [List.set]
    refine tkP G5OPSq1 (.pointer (some ⟨gr,i*3,none⟩)) 1 hQ hww ?_
    simp only [List.set]
    refine tkP G5OPSq2 (.pointer (some ⟨gr,i*3+2,none⟩)) 2 hQ hww ?_
    simp only [List.set]
    refine tkH G5OPSq3 (.slice (some ⟨gh,0,none⟩) m ch) 3 hQ (Or.inl ⟨by rfl,fun w hw=>by have hx:=hw.2.1;go_simp⟩) hww ?_
    simp only [List.set]
    refine tkP G5OPSq4 (.pointer (some ⟨gr,i*3,none⟩)) 4 hQ hww ?_
    simp only [List.set]
    refine tkP G5OPSq5 (.int .u64 (p:Int)) 5 hQ hww ?_
    simp only [List.set]
    exact last
  exact wp_region_held_drew (S:=(fun w=>w.cell? ⟨gr,i*3+1,none⟩=some (.int .u64 (live:Int))∧w.cell? ⟨gr,i*3+2,none⟩=some (.slice (some ⟨gh,0,none⟩) m ch)∧w.rangeAt gh (k*32) (z05 .u8 32 H)∧Below B W w∧∃ z,Has w r4 (UARR .u8 32 z) 35)) (by kernel_rfl) hs0 (fun _=>k0 _ hs0)
end Go.Proofs.YtnmalbngdhjhjaaGreatDoor.HX
