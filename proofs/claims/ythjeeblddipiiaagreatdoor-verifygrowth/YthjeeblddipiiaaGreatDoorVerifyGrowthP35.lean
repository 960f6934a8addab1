/- Texts of VerifyGrowth, one behind the other: MmrAppendRegions, MmrAppendPlain. -/
import Derived.Test.YthjeeblddipiiaaGreatDoorVerifyGrowthP22
import Derived.Test.YthjeeblddipiiaaGreatDoorVerifyGrowthP31
import Derived.Test.YthjeeblddipiiaaGreatDoorVerifyGrowthP32
namespace Go.Proofs.YthjeeblddipiiaaGreatDoor.HX
open Go.RowKit
set_option maxRecDepth 100000
theorem z4z {ops:Array Oper} {o:Oper} {a:Act} {w:World} {K:Act→World→Prop} {Q:Exit→Act→World→Prop} {E:Prop} (hg:o.guard=none) (ty:TypeId) (x:Operand) (ho:o.op=.load ty x)
    (b k:Nat) (hx:a.eval x=.pointer (some ⟨b,k,none⟩)) (cs:List Value) (d:TypeDesc) (hc:w.rangeAt b k cs) (hu:Tryz.prog.underlying ty=some d) (hd:d.isRow=true) (hi:(Tryz.prog.info? ty).map (·.size)=some cs.length)
    (h:K (a.put o.dst (.agg cs.toArray)) w):if Region.wanted o (yielded ops a.tmps)=true then Oper.wp Tryz.prog o a w K Q else E:=by
  have hw:Region.wanted o (yielded ops a.tmps)=true:=by simp [Region.wanted,hg]
  rw [if_pos hw]
  exact wp_load_mid ty x ho b k hx cs d hc hu hd hi h
def z2I:Array Oper:=#[⟨some 28,.move (.tmp 0),24,"mmr.go:53",#[],none⟩,⟨some 29,.nilCheck (.tmp 28),0,"mmr.go:53",#[⟨0,.data⟩],none⟩,⟨some 30,.fieldAddr 71 (.tmp 29) 0,0,"mmr.go:53",#[⟨1,.data⟩],none⟩,⟨some 31,.load 32 (.tmp 3),32,"mmr.go:53",#[],none⟩,⟨some 32,.call {callee:=.value (.func 44),args:=#[.tmp 30,.tmp 31],argTypes:=#[69,32]},23,"mmr.go:53",#[⟨2,.data⟩,⟨3,.data⟩],none⟩]
set_option maxHeartbeats 2000000 in
theorem z8J {Q:Exit→Act→World→Prop} {u1 u2 u4 u5 u6 u7 u8 u9 u10 u11 u12 u13 u14 u15 u16 u17 u18 u19 u20 u21 u22 u23 u24 u25 u26 u27 u28 u29 u30 u31 u32 u33 u34 u35 u36 u37 u38 u39 u40 u41 u42 u43 u44 u45 u46 u47 u48 u49 u50 u51 u52 u53:Value} (W:World) (g b m:Nat) (x:Nat→Nat) (I J:World→Prop) (h0:I W.drew) (hI:∀ w,I w→w.rangeAt b 0 (z01 .u8 32 x)) (hJ:∀ w,J w→w.rangeAt b 0 (z01 .u8 32 x))
    (c1:∀ w,I w→Calls Tryz.prog 44 #[.pointer (some ⟨g,0,none⟩),.agg (UARR .u8 32 x)] w fun e w'=>e=.returned (.int .u64 (m:Int))∧J w') (hQ:∀ c (a:Act) (t:Tmp) (v:Value) w,Q (.panic c) (a.put (some t) v) w→Q (.panic c) a w)
    (hfin:∀ (w:World),(J w)→Q .normal {tmps:=#[.pointer (some ⟨g,0,none⟩),u1,u2,.pointer (some ⟨b,0,none⟩),u4,u5,u6,u7,u8,u9,u10,u11,u12,u13,u14,u15,u16,u17,u18,u19,u20,u21,u22,u23,u24,u25,u26,u27,.pointer (some ⟨g,0,none⟩),.pointer (some ⟨g,0,none⟩),.pointer (some ⟨g,0,none⟩),.agg (UARR .u8 32 x),.int .u64 (m:Int),u33,u34,u35,u36,u37,u38,u39,u40,u41,u42,u43,u44,u45,u46,u47,u48,u49,u50,u51,u52,u53],defers:=[]} w):(Code.region 6 z2I true).wp Tryz.prog Q {tmps:=#[.pointer (some ⟨g,0,none⟩),u1,u2,.pointer (some ⟨b,0,none⟩),u4,u5,u6,u7,u8,u9,u10,u11,u12,u13,u14,u15,u16,u17,u18,u19,u20,u21,u22,u23,u24,u25,u26,u27,u28,u29,u30,u31,u32,u33,u34,u35,u36,u37,u38,u39,u40,u41,u42,u43,u44,u45,u46,u47,u48,u49,u50,u51,u52,u53],defers:=[]} W:=by
  have kst4:∀ (w:World),(J w)→wpAnyH Tryz.prog .any z2I Q (fun w:World=>w.rangeAt b 0 (z01 .u8 32 x)) 0 #[true,true,true,true,true] {tmps:=#[.pointer (some ⟨g,0,none⟩),u1,u2,.pointer (some ⟨b,0,none⟩),u4,u5,u6,u7,u8,u9,u10,u11,u12,u13,u14,u15,u16,u17,u18,u19,u20,u21,u22,u23,u24,u25,u26,u27,.pointer (some ⟨g,0,none⟩),.pointer (some ⟨g,0,none⟩),.pointer (some ⟨g,0,none⟩),.agg (UARR .u8 32 x),.int .u64 (m:Int),u33,u34,u35,u36,u37,u38,u39,u40,u41,u42,u43,u44,u45,u46,u47,u48,u49,u50,u51,u52,u53],defers:=[]} w:=fun  w hp=>by
    exact wpAnyH_done (by kernel_rfl) (hfin  w hp) _
  have kst:∀ (w:World),(I w)→wpAnyH Tryz.prog .any z2I Q (fun w:World=>w.rangeAt b 0 (z01 .u8 32 x)) 1 #[true,true,true,true,false] {tmps:=#[.pointer (some ⟨g,0,none⟩),u1,u2,.pointer (some ⟨b,0,none⟩),u4,u5,u6,u7,u8,u9,u10,u11,u12,u13,u14,u15,u16,u17,u18,u19,u20,u21,u22,u23,u24,u25,u26,u27,.pointer (some ⟨g,0,none⟩),.pointer (some ⟨g,0,none⟩),.pointer (some ⟨g,0,none⟩),.agg (UARR .u8 32 x),u32,u33,u34,u35,u36,u37,u38,u39,u40,u41,u42,u43,u44,u45,u46,u47,u48,u49,u50,u51,u52,u53],defers:=[]} w:=fun  w hp=>by
    refine wpAnyH_ready (rs:=[4]) (by kernel_rfl) (by simp) ?_
    refine AllReadyH.cons (o:=⟨some 32,.call {callee:=.value (.func 44),args:=#[.tmp 30,.tmp 31],argTypes:=#[69,32]},23,"mmr.go:53",#[⟨2,.data⟩,⟨3,.data⟩],none⟩) rfl (fun KQ hKQ=>?_) ?_
    · rw [if_pos (by rfl)]
      go_simp
      refine (show Calls _ _ _ w (fun e w'=>e=.returned (.int .u64 (m:Int))∧(J w')) from c1 w hp).mono ?_
      rintro e w' ⟨rfl,hp⟩
      exact hKQ.out _ _ (hJ _ hp) (fun _=>kst4  w' hp)
    exact AllReadyH.nil
  have hp:=h0
  have hww:(fun w:World=>w.rangeAt b 0 (z01 .u8 32 x)) W.drew:=hI _ hp
  have last:=kst W.drew hp
  have z:wpAnyH Tryz.prog .any z2I Q (fun w:World=>w.rangeAt b 0 (z01 .u8 32 x)) 5 #[false,false,false,false,false] {tmps:=#[.pointer (some ⟨g,0,none⟩),u1,u2,.pointer (some ⟨b,0,none⟩),u4,u5,u6,u7,u8,u9,u10,u11,u12,u13,u14,u15,u16,u17,u18,u19,u20,u21,u22,u23,u24,u25,u26,u27,u28,u29,u30,u31,u32,u33,u34,u35,u36,u37,u38,u39,u40,u41,u42,u43,u44,u45,u46,u47,u48,u49,u50,u51,u52,u53],defers:=[]} W.drew:=by
    have t3:wpAnyH Tryz.prog .any z2I Q (fun w:World=>w.rangeAt b 0 (z01 .u8 32 x)) 2 #[true,true,true,false,false] {tmps:=#[.pointer (some ⟨g,0,none⟩),u1,u2,.pointer (some ⟨b,0,none⟩),u4,u5,u6,u7,u8,u9,u10,u11,u12,u13,u14,u15,u16,u17,u18,u19,u20,u21,u22,u23,u24,u25,u26,u27,.pointer (some ⟨g,0,none⟩),.pointer (some ⟨g,0,none⟩),.pointer (some ⟨g,0,none⟩),u31,u32,u33,u34,u35,u36,u37,u38,u39,u40,u41,u42,u43,u44,u45,u46,u47,u48,u49,u50,u51,u52,u53],defers:=[]} W.drew:=
      wpAnyH_take (i:=3) (oi:=⟨some 31,.load 32 (.tmp 3),32,"mmr.go:53",#[],none⟩) (v:=.agg (UARR .u8 32 x)) rfl (by kernel_rfl) (by kernel_rfl) (by kernel_rfl) (fun _ _ _ h=>hQ _ _ _ _ _ h) (yieldsIf_load_mid (by rfl) 32 (.tmp 3) rfl b 0 rfl (z01 .u8 32 x) _ (fun w h=>h) Tryz.underlying32 rfl (by rw [z09];exact z0q)) hww last
    have t2:wpAnyH Tryz.prog .any z2I Q (fun w:World=>w.rangeAt b 0 (z01 .u8 32 x)) 3 #[true,true,false,false,false] {tmps:=#[.pointer (some ⟨g,0,none⟩),u1,u2,.pointer (some ⟨b,0,none⟩),u4,u5,u6,u7,u8,u9,u10,u11,u12,u13,u14,u15,u16,u17,u18,u19,u20,u21,u22,u23,u24,u25,u26,u27,.pointer (some ⟨g,0,none⟩),.pointer (some ⟨g,0,none⟩),u30,u31,u32,u33,u34,u35,u36,u37,u38,u39,u40,u41,u42,u43,u44,u45,u46,u47,u48,u49,u50,u51,u52,u53],defers:=[]} W.drew:=
      wpAnyH_take (i:=2) (oi:=⟨some 30,.fieldAddr 71 (.tmp 29) 0,0,"mmr.go:53",#[⟨1,.data⟩],none⟩) (v:=.pointer (some ⟨g,0,none⟩)) rfl (by kernel_rfl) (by kernel_rfl) (by kernel_rfl) (fun _ _ _ h=>hQ _ _ _ _ _ h) (Yields.yieldsIf (Or.inl ⟨by rfl,fun W=>by go_simp⟩)) hww t3
    have t1:wpAnyH Tryz.prog .any z2I Q (fun w:World=>w.rangeAt b 0 (z01 .u8 32 x)) 4 #[true,false,false,false,false] {tmps:=#[.pointer (some ⟨g,0,none⟩),u1,u2,.pointer (some ⟨b,0,none⟩),u4,u5,u6,u7,u8,u9,u10,u11,u12,u13,u14,u15,u16,u17,u18,u19,u20,u21,u22,u23,u24,u25,u26,u27,.pointer (some ⟨g,0,none⟩),u29,u30,u31,u32,u33,u34,u35,u36,u37,u38,u39,u40,u41,u42,u43,u44,u45,u46,u47,u48,u49,u50,u51,u52,u53],defers:=[]} W.drew:=
      wpAnyH_take (i:=1) (oi:=⟨some 29,.nilCheck (.tmp 28),0,"mmr.go:53",#[⟨0,.data⟩],none⟩) (v:=.pointer (some ⟨g,0,none⟩)) rfl (by kernel_rfl) (by kernel_rfl) (by kernel_rfl) (fun _ _ _ h=>hQ _ _ _ _ _ h) (Yields.yieldsIf (Or.inl ⟨by rfl,fun W=>by go_simp⟩)) hww t2
    have t0:wpAnyH Tryz.prog .any z2I Q (fun w:World=>w.rangeAt b 0 (z01 .u8 32 x)) 5 #[false,false,false,false,false] {tmps:=#[.pointer (some ⟨g,0,none⟩),u1,u2,.pointer (some ⟨b,0,none⟩),u4,u5,u6,u7,u8,u9,u10,u11,u12,u13,u14,u15,u16,u17,u18,u19,u20,u21,u22,u23,u24,u25,u26,u27,u28,u29,u30,u31,u32,u33,u34,u35,u36,u37,u38,u39,u40,u41,u42,u43,u44,u45,u46,u47,u48,u49,u50,u51,u52,u53],defers:=[]} W.drew:=
      wpAnyH_take (i:=0) (oi:=⟨some 28,.move (.tmp 0),24,"mmr.go:53",#[],none⟩) (v:=.pointer (some ⟨g,0,none⟩)) rfl (by kernel_rfl) (by kernel_rfl) (by kernel_rfl) (fun _ _ _ h=>hQ _ _ _ _ _ h) (Yields.yieldsIf (Or.inl ⟨by rfl,fun W=>by go_simp⟩)) hww t1
    exact t0
  exact wp_region_held_drew (S:=(fun w:World=>w.rangeAt b 0 (z01 .u8 32 x))) (by kernel_rfl) hww (fun _=>z)
def z2d:Array Oper:=#[⟨some 47,.move (.tmp 0),24,"mmr.go:56",#[],none⟩,⟨some 48,.nilCheck (.tmp 47),0,"mmr.go:56",#[⟨0,.data⟩],none⟩,⟨some 49,.fieldAddr 71 (.tmp 48) 0,0,"mmr.go:56",#[⟨1,.data⟩],none⟩,⟨some 50,.load 32 (.tmp 8),32,"mmr.go:56",#[],none⟩,⟨some 51,.call {callee:=.value (.func 44),args:=#[.tmp 49,.tmp 50],argTypes:=#[69,32]},23,"mmr.go:56",#[⟨2,.data⟩,⟨3,.data⟩],none⟩]
set_option maxHeartbeats 2000000 in
theorem z9u {Q:Exit→Act→World→Prop} {u1 u2 u3 u4 u5 u6 u7 u9 u10 u11 u12 u13 u14 u15 u16 u17 u18 u19 u20 u21 u22 u23 u24 u25 u26 u27 u28 u29 u30 u31 u32 u33 u34 u35 u36 u37 u38 u39 u40 u41 u42 u43 u44 u45 u46 u47 u48 u49 u50 u51 u52 u53:Value} (W:World) (g b m:Nat) (x:Nat→Nat) (I J:World→Prop) (h0:I W.drew) (hI:∀ w,I w→w.rangeAt b 0 (z01 .u8 32 x)) (hJ:∀ w,J w→w.rangeAt b 0 (z01 .u8 32 x))
    (c1:∀ w,I w→Calls Tryz.prog 44 #[.pointer (some ⟨g,0,none⟩),.agg (UARR .u8 32 x)] w fun e w'=>e=.returned (.int .u64 (m:Int))∧J w') (hQ:∀ c (a:Act) (t:Tmp) (v:Value) w,Q (.panic c) (a.put (some t) v) w→Q (.panic c) a w)
    (hfin:∀ (w:World),(J w)→Q .normal {tmps:=#[.pointer (some ⟨g,0,none⟩),u1,u2,u3,u4,u5,u6,u7,.pointer (some ⟨b,0,none⟩),u9,u10,u11,u12,u13,u14,u15,u16,u17,u18,u19,u20,u21,u22,u23,u24,u25,u26,u27,u28,u29,u30,u31,u32,u33,u34,u35,u36,u37,u38,u39,u40,u41,u42,u43,u44,u45,u46,.pointer (some ⟨g,0,none⟩),.pointer (some ⟨g,0,none⟩),.pointer (some ⟨g,0,none⟩),.agg (UARR .u8 32 x),.int .u64 (m:Int),u52,u53],defers:=[]} w):(Code.region 11 z2d true).wp Tryz.prog Q {tmps:=#[.pointer (some ⟨g,0,none⟩),u1,u2,u3,u4,u5,u6,u7,.pointer (some ⟨b,0,none⟩),u9,u10,u11,u12,u13,u14,u15,u16,u17,u18,u19,u20,u21,u22,u23,u24,u25,u26,u27,u28,u29,u30,u31,u32,u33,u34,u35,u36,u37,u38,u39,u40,u41,u42,u43,u44,u45,u46,u47,u48,u49,u50,u51,u52,u53],defers:=[]} W:=by
  have kst4:∀ (w:World),(J w)→wpAnyH Tryz.prog .any z2d Q (fun w:World=>w.rangeAt b 0 (z01 .u8 32 x)) 0 #[true,true,true,true,true] {tmps:=#[.pointer (some ⟨g,0,none⟩),u1,u2,u3,u4,u5,u6,u7,.pointer (some ⟨b,0,none⟩),u9,u10,u11,u12,u13,u14,u15,u16,u17,u18,u19,u20,u21,u22,u23,u24,u25,u26,u27,u28,u29,u30,u31,u32,u33,u34,u35,u36,u37,u38,u39,u40,u41,u42,u43,u44,u45,u46,.pointer (some ⟨g,0,none⟩),.pointer (some ⟨g,0,none⟩),.pointer (some ⟨g,0,none⟩),.agg (UARR .u8 32 x),.int .u64 (m:Int),u52,u53],defers:=[]} w:=fun  w hp=>by
    exact wpAnyH_done (by kernel_rfl) (hfin  w hp) _
  have kst:∀ (w:World),(I w)→wpAnyH Tryz.prog .any z2d Q (fun w:World=>w.rangeAt b 0 (z01 .u8 32 x)) 1 #[true,true,true,true,false] {tmps:=#[.pointer (some ⟨g,0,none⟩),u1,u2,u3,u4,u5,u6,u7,.pointer (some ⟨b,0,none⟩),u9,u10,u11,u12,u13,u14,u15,u16,u17,u18,u19,u20,u21,u22,u23,u24,u25,u26,u27,u28,u29,u30,u31,u32,u33,u34,u35,u36,u37,u38,u39,u40,u41,u42,u43,u44,u45,u46,.pointer (some ⟨g,0,none⟩),.pointer (some ⟨g,0,none⟩),.pointer (some ⟨g,0,none⟩),.agg (UARR .u8 32 x),u51,u52,u53],defers:=[]} w:=fun  w hp=>by
    refine wpAnyH_ready (rs:=[4]) (by kernel_rfl) (by simp) ?_
    refine AllReadyH.cons (o:=⟨some 51,.call {callee:=.value (.func 44),args:=#[.tmp 49,.tmp 50],argTypes:=#[69,32]},23,"mmr.go:56",#[⟨2,.data⟩,⟨3,.data⟩],none⟩) rfl (fun KQ hKQ=>?_) ?_
    · rw [if_pos (by rfl)]
      go_simp
      refine (show Calls _ _ _ w (fun e w'=>e=.returned (.int .u64 (m:Int))∧(J w')) from c1 w hp).mono ?_
      rintro e w' ⟨rfl,hp⟩
      exact hKQ.out _ _ (hJ _ hp) (fun _=>kst4  w' hp)
    exact AllReadyH.nil
  have hp:=h0
  have hww:(fun w:World=>w.rangeAt b 0 (z01 .u8 32 x)) W.drew:=hI _ hp
  have last:=kst W.drew hp
  have z:wpAnyH Tryz.prog .any z2d Q (fun w:World=>w.rangeAt b 0 (z01 .u8 32 x)) 5 #[false,false,false,false,false] {tmps:=#[.pointer (some ⟨g,0,none⟩),u1,u2,u3,u4,u5,u6,u7,.pointer (some ⟨b,0,none⟩),u9,u10,u11,u12,u13,u14,u15,u16,u17,u18,u19,u20,u21,u22,u23,u24,u25,u26,u27,u28,u29,u30,u31,u32,u33,u34,u35,u36,u37,u38,u39,u40,u41,u42,u43,u44,u45,u46,u47,u48,u49,u50,u51,u52,u53],defers:=[]} W.drew:=by
    have t3:wpAnyH Tryz.prog .any z2d Q (fun w:World=>w.rangeAt b 0 (z01 .u8 32 x)) 2 #[true,true,true,false,false] {tmps:=#[.pointer (some ⟨g,0,none⟩),u1,u2,u3,u4,u5,u6,u7,.pointer (some ⟨b,0,none⟩),u9,u10,u11,u12,u13,u14,u15,u16,u17,u18,u19,u20,u21,u22,u23,u24,u25,u26,u27,u28,u29,u30,u31,u32,u33,u34,u35,u36,u37,u38,u39,u40,u41,u42,u43,u44,u45,u46,.pointer (some ⟨g,0,none⟩),.pointer (some ⟨g,0,none⟩),.pointer (some ⟨g,0,none⟩),u50,u51,u52,u53],defers:=[]} W.drew:=
      wpAnyH_take (i:=3) (oi:=⟨some 50,.load 32 (.tmp 8),32,"mmr.go:56",#[],none⟩) (v:=.agg (UARR .u8 32 x)) rfl (by kernel_rfl) (by kernel_rfl) (by kernel_rfl) (fun _ _ _ h=>hQ _ _ _ _ _ h) (yieldsIf_load_mid (by rfl) 32 (.tmp 8) rfl b 0 rfl (z01 .u8 32 x) _ (fun w h=>h) Tryz.underlying32 rfl (by rw [z09];exact z0q)) hww last
    have t2:wpAnyH Tryz.prog .any z2d Q (fun w:World=>w.rangeAt b 0 (z01 .u8 32 x)) 3 #[true,true,false,false,false] {tmps:=#[.pointer (some ⟨g,0,none⟩),u1,u2,u3,u4,u5,u6,u7,.pointer (some ⟨b,0,none⟩),u9,u10,u11,u12,u13,u14,u15,u16,u17,u18,u19,u20,u21,u22,u23,u24,u25,u26,u27,u28,u29,u30,u31,u32,u33,u34,u35,u36,u37,u38,u39,u40,u41,u42,u43,u44,u45,u46,.pointer (some ⟨g,0,none⟩),.pointer (some ⟨g,0,none⟩),u49,u50,u51,u52,u53],defers:=[]} W.drew:=
      wpAnyH_take (i:=2) (oi:=⟨some 49,.fieldAddr 71 (.tmp 48) 0,0,"mmr.go:56",#[⟨1,.data⟩],none⟩) (v:=.pointer (some ⟨g,0,none⟩)) rfl (by kernel_rfl) (by kernel_rfl) (by kernel_rfl) (fun _ _ _ h=>hQ _ _ _ _ _ h) (Yields.yieldsIf (Or.inl ⟨by rfl,fun W=>by go_simp⟩)) hww t3
    have t1:wpAnyH Tryz.prog .any z2d Q (fun w:World=>w.rangeAt b 0 (z01 .u8 32 x)) 4 #[true,false,false,false,false] {tmps:=#[.pointer (some ⟨g,0,none⟩),u1,u2,u3,u4,u5,u6,u7,.pointer (some ⟨b,0,none⟩),u9,u10,u11,u12,u13,u14,u15,u16,u17,u18,u19,u20,u21,u22,u23,u24,u25,u26,u27,u28,u29,u30,u31,u32,u33,u34,u35,u36,u37,u38,u39,u40,u41,u42,u43,u44,u45,u46,.pointer (some ⟨g,0,none⟩),u48,u49,u50,u51,u52,u53],defers:=[]} W.drew:=
      wpAnyH_take (i:=1) (oi:=⟨some 48,.nilCheck (.tmp 47),0,"mmr.go:56",#[⟨0,.data⟩],none⟩) (v:=.pointer (some ⟨g,0,none⟩)) rfl (by kernel_rfl) (by kernel_rfl) (by kernel_rfl) (fun _ _ _ h=>hQ _ _ _ _ _ h) (Yields.yieldsIf (Or.inl ⟨by rfl,fun W=>by go_simp⟩)) hww t2
    have t0:wpAnyH Tryz.prog .any z2d Q (fun w:World=>w.rangeAt b 0 (z01 .u8 32 x)) 5 #[false,false,false,false,false] {tmps:=#[.pointer (some ⟨g,0,none⟩),u1,u2,u3,u4,u5,u6,u7,.pointer (some ⟨b,0,none⟩),u9,u10,u11,u12,u13,u14,u15,u16,u17,u18,u19,u20,u21,u22,u23,u24,u25,u26,u27,u28,u29,u30,u31,u32,u33,u34,u35,u36,u37,u38,u39,u40,u41,u42,u43,u44,u45,u46,u47,u48,u49,u50,u51,u52,u53],defers:=[]} W.drew:=
      wpAnyH_take (i:=0) (oi:=⟨some 47,.move (.tmp 0),24,"mmr.go:56",#[],none⟩) (v:=.pointer (some ⟨g,0,none⟩)) rfl (by kernel_rfl) (by kernel_rfl) (by kernel_rfl) (fun _ _ _ h=>hQ _ _ _ _ _ h) (Yields.yieldsIf (Or.inl ⟨by rfl,fun W=>by go_simp⟩)) hww t1
    exact t0
  exact wp_region_held_drew (S:=(fun w:World=>w.rangeAt b 0 (z01 .u8 32 x))) (by kernel_rfl) hww (fun _=>z)
def z16:Array Oper:=#[⟨some 38,.move (.tmp 0),24,"mmr.go:55",#[],none⟩,⟨some 39,.nilCheck (.tmp 38),0,"mmr.go:55",#[⟨0,.data⟩],none⟩,⟨some 40,.fieldAddr 71 (.tmp 39) 1,0,"mmr.go:55",#[⟨1,.data⟩],none⟩,⟨some 41,.load 3 (.tmp 40),3,"mmr.go:55",#[⟨2,.data⟩],none⟩,⟨some 42,.move (.tmp 0),24,"mmr.go:55",#[],none⟩,⟨some 43,.move (.tmp 6),23,"mmr.go:55",#[],none⟩,⟨some 44,.call {callee:=.value (.func 46),args:=#[.tmp 42,.tmp 43],argTypes:=#[24,23]},32,"mmr.go:55",#[⟨4,.data⟩,⟨5,.data⟩],none⟩,⟨some 45,.load 32 (.tmp 8),32,"mmr.go:55",#[],none⟩,⟨some 46,.call {callee:=.value (.func 37),args:=#[.tmp 41,.tmp 44,.tmp 45],argTypes:=#[3,32,32]},32,"mmr.go:55",#[⟨3,.data⟩,⟨6,.data⟩,⟨7,.data⟩,⟨6,.chain⟩],none⟩,⟨none,.store 32 (.tmp 8) (.tmp 46),0,"mmr.go:55",#[⟨8,.data⟩,⟨8,.chain⟩,⟨0,.phase⟩,⟨1,.phase⟩,⟨2,.phase⟩,⟨3,.phase⟩,⟨4,.phase⟩,⟨5,.phase⟩,⟨6,.phase⟩,⟨7,.phase⟩,⟨8,.phase⟩],none⟩]
set_option maxHeartbeats 2000000 in
theorem z9v {Q:Exit→Act→World→Prop} {u1 u2 u3 u4 u5 u7 u9 u10 u11 u12 u13 u14 u15 u16 u17 u18 u19 u20 u21 u22 u23 u24 u25 u26 u27 u28 u29 u30 u31 u32 u33 u34 u35 u36 u37 u38 u39 u40 u41 u42 u43 u44 u45 u46 u47 u48 u49 u50 u51 u52 u53:Value} (W:World) (g b p:Nat) (d:Int) (l x y:Nat→Nat) (I:World→Prop) (h0:I W.drew) (hI:∀ w,I w→w.cell? ⟨g,5,none⟩=some (.int .i64 d)∧w.rangeAt b 0 (z01 .u8 32 x)∧Has w b (UARR .u8 32 x) 32) (hK5:∀ w,I w→(w.setRow b (UARR .u8 32 y)).cell? ⟨g,5,none⟩=some (.int .i64 d))
    (c1:∀ w,I w→Calls Tryz.prog 46 #[.pointer (some ⟨g,0,none⟩),.int .u64 (p:Int)] w fun e w'=>e=.returned (.agg (UARR .u8 32 l))∧I w') (c2:∀ w,I w→Calls Tryz.prog 37 #[.int .i64 d,.agg (UARR .u8 32 l),.agg (UARR .u8 32 x)] w fun e w'=>e=.returned (.agg (UARR .u8 32 y))∧I w') (hQ:∀ c (a:Act) (t:Tmp) (v:Value) w,Q (.panic c) (a.put (some t) v) w→Q (.panic c) a w)
    (hfin:∀ (w:World),(∃ w0:World,I w0∧w=w0.setRow b (UARR .u8 32 y))→Q .normal {tmps:=#[.pointer (some ⟨g,0,none⟩),u1,u2,u3,u4,u5,.int .u64 (p:Int),u7,.pointer (some ⟨b,0,none⟩),u9,u10,u11,u12,u13,u14,u15,u16,u17,u18,u19,u20,u21,u22,u23,u24,u25,u26,u27,u28,u29,u30,u31,u32,u33,u34,u35,u36,u37,.pointer (some ⟨g,0,none⟩),.pointer (some ⟨g,0,none⟩),.pointer (some ⟨g,5,none⟩),.int .i64 d,.pointer (some ⟨g,0,none⟩),.int .u64 (p:Int),.agg (UARR .u8 32 l),.agg (UARR .u8 32 x),.agg (UARR .u8 32 y),u47,u48,u49,u50,u51,u52,u53],defers:=[]} w):(Code.region 10 z16 true).wp Tryz.prog Q {tmps:=#[.pointer (some ⟨g,0,none⟩),u1,u2,u3,u4,u5,.int .u64 (p:Int),u7,.pointer (some ⟨b,0,none⟩),u9,u10,u11,u12,u13,u14,u15,u16,u17,u18,u19,u20,u21,u22,u23,u24,u25,u26,u27,u28,u29,u30,u31,u32,u33,u34,u35,u36,u37,u38,u39,u40,u41,u42,u43,u44,u45,u46,u47,u48,u49,u50,u51,u52,u53],defers:=[]} W:=by
  have kst6_7_8_9:∀ (w:World),(∃ w0:World,I w0∧w=w0.setRow b (UARR .u8 32 y))→wpAnyH Tryz.prog .any z16 Q (fun w:World=>w.cell? ⟨g,5,none⟩=some (.int .i64 d)) 0 #[true,true,true,true,true,true,true,true,true,true] {tmps:=#[.pointer (some ⟨g,0,none⟩),u1,u2,u3,u4,u5,.int .u64 (p:Int),u7,.pointer (some ⟨b,0,none⟩),u9,u10,u11,u12,u13,u14,u15,u16,u17,u18,u19,u20,u21,u22,u23,u24,u25,u26,u27,u28,u29,u30,u31,u32,u33,u34,u35,u36,u37,.pointer (some ⟨g,0,none⟩),.pointer (some ⟨g,0,none⟩),.pointer (some ⟨g,5,none⟩),.int .i64 d,.pointer (some ⟨g,0,none⟩),.int .u64 (p:Int),.agg (UARR .u8 32 l),.agg (UARR .u8 32 x),.agg (UARR .u8 32 y),u47,u48,u49,u50,u51,u52,u53],defers:=[]} w:=fun  w hp=>by
    exact wpAnyH_done (by kernel_rfl) (hfin  w hp) _
  have kst6_7_8:∀ (w:World),(I w)→wpAnyH Tryz.prog .any z16 Q (fun w:World=>w.cell? ⟨g,5,none⟩=some (.int .i64 d)) 1 #[true,true,true,true,true,true,true,true,true,false] {tmps:=#[.pointer (some ⟨g,0,none⟩),u1,u2,u3,u4,u5,.int .u64 (p:Int),u7,.pointer (some ⟨b,0,none⟩),u9,u10,u11,u12,u13,u14,u15,u16,u17,u18,u19,u20,u21,u22,u23,u24,u25,u26,u27,u28,u29,u30,u31,u32,u33,u34,u35,u36,u37,.pointer (some ⟨g,0,none⟩),.pointer (some ⟨g,0,none⟩),.pointer (some ⟨g,5,none⟩),.int .i64 d,.pointer (some ⟨g,0,none⟩),.int .u64 (p:Int),.agg (UARR .u8 32 l),.agg (UARR .u8 32 x),.agg (UARR .u8 32 y),u47,u48,u49,u50,u51,u52,u53],defers:=[]} w:=fun  w hp=>by
    refine wpAnyH_ready (rs:=[9]) (by kernel_rfl) (by simp) ?_
    refine AllReadyH.cons (o:=⟨none,.store 32 (.tmp 8) (.tmp 46),0,"mmr.go:55",#[⟨8,.data⟩,⟨8,.chain⟩,⟨0,.phase⟩,⟨1,.phase⟩,⟨2,.phase⟩,⟨3,.phase⟩,⟨4,.phase⟩,⟨5,.phase⟩,⟨6,.phase⟩,⟨7,.phase⟩,⟨8,.phase⟩],none⟩) rfl (fun KQ hKQ=>?_) ?_
    · exact z0U rfl (z1h (z49 (hI _ hp).2.2 y)) (have hp:(fun (w:World)=>(∃ w0:World,I w0∧w=w0.setRow b (UARR .u8 32 y)))  _:=⟨w,hp,rfl⟩;hKQ.out _ _ ((by obtain ⟨w0,h1,h2⟩:=hp; (first | rw [h2] | skip);exact hK5 _ h1)) (fun _=>kst6_7_8_9  _ hp))
    exact AllReadyH.nil
  have kst6_7:∀ (w:World),(I w)→wpAnyH Tryz.prog .any z16 Q (fun w:World=>w.cell? ⟨g,5,none⟩=some (.int .i64 d)) 2 #[true,true,true,true,true,true,true,true,false,false] {tmps:=#[.pointer (some ⟨g,0,none⟩),u1,u2,u3,u4,u5,.int .u64 (p:Int),u7,.pointer (some ⟨b,0,none⟩),u9,u10,u11,u12,u13,u14,u15,u16,u17,u18,u19,u20,u21,u22,u23,u24,u25,u26,u27,u28,u29,u30,u31,u32,u33,u34,u35,u36,u37,.pointer (some ⟨g,0,none⟩),.pointer (some ⟨g,0,none⟩),.pointer (some ⟨g,5,none⟩),.int .i64 d,.pointer (some ⟨g,0,none⟩),.int .u64 (p:Int),.agg (UARR .u8 32 l),.agg (UARR .u8 32 x),u46,u47,u48,u49,u50,u51,u52,u53],defers:=[]} w:=fun  w hp=>by
    refine wpAnyH_ready (rs:=[8]) (by kernel_rfl) (by simp) ?_
    refine AllReadyH.cons (o:=⟨some 46,.call {callee:=.value (.func 37),args:=#[.tmp 41,.tmp 44,.tmp 45],argTypes:=#[3,32,32]},32,"mmr.go:55",#[⟨3,.data⟩,⟨6,.data⟩,⟨7,.data⟩,⟨6,.chain⟩],none⟩) rfl (fun KQ hKQ=>?_) ?_
    · rw [if_pos (by rfl)]
      go_simp
      refine (show Calls _ _ _ w (fun e w'=>e=.returned (.agg (UARR .u8 32 y))∧(I w')) from c2 w hp).mono ?_
      rintro e w' ⟨rfl,hp⟩
      exact hKQ.out _ _ ((hI _ hp).1) (fun _=>kst6_7_8  w' hp)
    exact AllReadyH.nil
  have kst6:∀ (w:World),(I w)→wpAnyH Tryz.prog .any z16 Q (fun w:World=>w.cell? ⟨g,5,none⟩=some (.int .i64 d)) 3 #[true,true,true,true,true,true,true,false,false,false] {tmps:=#[.pointer (some ⟨g,0,none⟩),u1,u2,u3,u4,u5,.int .u64 (p:Int),u7,.pointer (some ⟨b,0,none⟩),u9,u10,u11,u12,u13,u14,u15,u16,u17,u18,u19,u20,u21,u22,u23,u24,u25,u26,u27,u28,u29,u30,u31,u32,u33,u34,u35,u36,u37,.pointer (some ⟨g,0,none⟩),.pointer (some ⟨g,0,none⟩),.pointer (some ⟨g,5,none⟩),.int .i64 d,.pointer (some ⟨g,0,none⟩),.int .u64 (p:Int),.agg (UARR .u8 32 l),u45,u46,u47,u48,u49,u50,u51,u52,u53],defers:=[]} w:=fun  w hp=>by
    refine wpAnyH_ready (rs:=[7]) (by kernel_rfl) (by simp) ?_
    refine AllReadyH.cons (o:=⟨some 45,.load 32 (.tmp 8),32,"mmr.go:55",#[],none⟩) rfl (fun KQ hKQ=>?_) ?_
    · exact z4z rfl 32 (.tmp 8) rfl b 0 rfl (z01 .u8 32 x) _ (hI _ hp).2.1 Tryz.underlying32 rfl (by rw [z09];exact z0q) (have hp:(fun (w:World)=>(I w))  w:=hp;hKQ.out _ _ ((hI _ hp).1) (fun _=>kst6_7  _ hp))
    exact AllReadyH.nil
  have kst7:∀ (w:World),(I w)→wpAnyH Tryz.prog .any z16 Q (fun w:World=>w.cell? ⟨g,5,none⟩=some (.int .i64 d)) 3 #[true,true,true,true,true,true,false,true,false,false] {tmps:=#[.pointer (some ⟨g,0,none⟩),u1,u2,u3,u4,u5,.int .u64 (p:Int),u7,.pointer (some ⟨b,0,none⟩),u9,u10,u11,u12,u13,u14,u15,u16,u17,u18,u19,u20,u21,u22,u23,u24,u25,u26,u27,u28,u29,u30,u31,u32,u33,u34,u35,u36,u37,.pointer (some ⟨g,0,none⟩),.pointer (some ⟨g,0,none⟩),.pointer (some ⟨g,5,none⟩),.int .i64 d,.pointer (some ⟨g,0,none⟩),.int .u64 (p:Int),u44,.agg (UARR .u8 32 x),u46,u47,u48,u49,u50,u51,u52,u53],defers:=[]} w:=fun  w hp=>by
    refine wpAnyH_ready (rs:=[6]) (by kernel_rfl) (by simp) ?_
    refine AllReadyH.cons (o:=⟨some 44,.call {callee:=.value (.func 46),args:=#[.tmp 42,.tmp 43],argTypes:=#[24,23]},32,"mmr.go:55",#[⟨4,.data⟩,⟨5,.data⟩],none⟩) rfl (fun KQ hKQ=>?_) ?_
    · rw [if_pos (by rfl)]
      go_simp
      refine (show Calls _ _ _ w (fun e w'=>e=.returned (.agg (UARR .u8 32 l))∧(I w')) from c1 w hp).mono ?_
      rintro e w' ⟨rfl,hp⟩
      exact hKQ.out _ _ ((hI _ hp).1) (fun _=>kst6_7  w' hp)
    exact AllReadyH.nil
  have kst:∀ (w:World),(I w)→wpAnyH Tryz.prog .any z16 Q (fun w:World=>w.cell? ⟨g,5,none⟩=some (.int .i64 d)) 4 #[true,true,true,true,true,true,false,false,false,false] {tmps:=#[.pointer (some ⟨g,0,none⟩),u1,u2,u3,u4,u5,.int .u64 (p:Int),u7,.pointer (some ⟨b,0,none⟩),u9,u10,u11,u12,u13,u14,u15,u16,u17,u18,u19,u20,u21,u22,u23,u24,u25,u26,u27,u28,u29,u30,u31,u32,u33,u34,u35,u36,u37,.pointer (some ⟨g,0,none⟩),.pointer (some ⟨g,0,none⟩),.pointer (some ⟨g,5,none⟩),.int .i64 d,.pointer (some ⟨g,0,none⟩),.int .u64 (p:Int),u44,u45,u46,u47,u48,u49,u50,u51,u52,u53],defers:=[]} w:=fun  w hp=>by
    refine wpAnyH_ready (rs:=[6,7]) (by kernel_rfl) (by simp) ?_
    refine AllReadyH.cons (o:=⟨some 44,.call {callee:=.value (.func 46),args:=#[.tmp 42,.tmp 43],argTypes:=#[24,23]},32,"mmr.go:55",#[⟨4,.data⟩,⟨5,.data⟩],none⟩) rfl (fun KQ hKQ=>?_) ?_
    · rw [if_pos (by rfl)]
      go_simp
      refine (show Calls _ _ _ w (fun e w'=>e=.returned (.agg (UARR .u8 32 l))∧(I w')) from c1 w hp).mono ?_
      rintro e w' ⟨rfl,hp⟩
      exact hKQ.out _ _ ((hI _ hp).1) (fun _=>kst6  w' hp)
    refine AllReadyH.cons (o:=⟨some 45,.load 32 (.tmp 8),32,"mmr.go:55",#[],none⟩) rfl (fun KQ hKQ=>?_) ?_
    · exact z4z rfl 32 (.tmp 8) rfl b 0 rfl (z01 .u8 32 x) _ (hI _ hp).2.1 Tryz.underlying32 rfl (by rw [z09];exact z0q) (have hp:(fun (w:World)=>(I w))  w:=hp;hKQ.out _ _ ((hI _ hp).1) (fun _=>kst7  _ hp))
    exact AllReadyH.nil
  have hp:=h0
  have hww:(fun w:World=>w.cell? ⟨g,5,none⟩=some (.int .i64 d)) W.drew:=(hI _ hp).1
  have last:=kst W.drew hp
  have z:wpAnyH Tryz.prog .any z16 Q (fun w:World=>w.cell? ⟨g,5,none⟩=some (.int .i64 d)) 10 #[false,false,false,false,false,false,false,false,false,false] {tmps:=#[.pointer (some ⟨g,0,none⟩),u1,u2,u3,u4,u5,.int .u64 (p:Int),u7,.pointer (some ⟨b,0,none⟩),u9,u10,u11,u12,u13,u14,u15,u16,u17,u18,u19,u20,u21,u22,u23,u24,u25,u26,u27,u28,u29,u30,u31,u32,u33,u34,u35,u36,u37,u38,u39,u40,u41,u42,u43,u44,u45,u46,u47,u48,u49,u50,u51,u52,u53],defers:=[]} W.drew:=by
    have t5:wpAnyH Tryz.prog .any z16 Q (fun w:World=>w.cell? ⟨g,5,none⟩=some (.int .i64 d)) 5 #[true,true,true,true,true,false,false,false,false,false] {tmps:=#[.pointer (some ⟨g,0,none⟩),u1,u2,u3,u4,u5,.int .u64 (p:Int),u7,.pointer (some ⟨b,0,none⟩),u9,u10,u11,u12,u13,u14,u15,u16,u17,u18,u19,u20,u21,u22,u23,u24,u25,u26,u27,u28,u29,u30,u31,u32,u33,u34,u35,u36,u37,.pointer (some ⟨g,0,none⟩),.pointer (some ⟨g,0,none⟩),.pointer (some ⟨g,5,none⟩),.int .i64 d,.pointer (some ⟨g,0,none⟩),u43,u44,u45,u46,u47,u48,u49,u50,u51,u52,u53],defers:=[]} W.drew:=
      wpAnyH_take (i:=5) (oi:=⟨some 43,.move (.tmp 6),23,"mmr.go:55",#[],none⟩) (v:=.int .u64 (p:Int)) rfl (by kernel_rfl) (by kernel_rfl) (by kernel_rfl) (fun _ _ _ h=>hQ _ _ _ _ _ h) (Yields.yieldsIf (Or.inl ⟨by rfl,fun W=>by go_simp⟩)) hww last
    have t4:wpAnyH Tryz.prog .any z16 Q (fun w:World=>w.cell? ⟨g,5,none⟩=some (.int .i64 d)) 6 #[true,true,true,true,false,false,false,false,false,false] {tmps:=#[.pointer (some ⟨g,0,none⟩),u1,u2,u3,u4,u5,.int .u64 (p:Int),u7,.pointer (some ⟨b,0,none⟩),u9,u10,u11,u12,u13,u14,u15,u16,u17,u18,u19,u20,u21,u22,u23,u24,u25,u26,u27,u28,u29,u30,u31,u32,u33,u34,u35,u36,u37,.pointer (some ⟨g,0,none⟩),.pointer (some ⟨g,0,none⟩),.pointer (some ⟨g,5,none⟩),.int .i64 d,u42,u43,u44,u45,u46,u47,u48,u49,u50,u51,u52,u53],defers:=[]} W.drew:=
      wpAnyH_take (i:=4) (oi:=⟨some 42,.move (.tmp 0),24,"mmr.go:55",#[],none⟩) (v:=.pointer (some ⟨g,0,none⟩)) rfl (by kernel_rfl) (by kernel_rfl) (by kernel_rfl) (fun _ _ _ h=>hQ _ _ _ _ _ h) (Yields.yieldsIf (Or.inl ⟨by rfl,fun W=>by go_simp⟩)) hww t5
    have t3:wpAnyH Tryz.prog .any z16 Q (fun w:World=>w.cell? ⟨g,5,none⟩=some (.int .i64 d)) 7 #[true,true,true,false,false,false,false,false,false,false] {tmps:=#[.pointer (some ⟨g,0,none⟩),u1,u2,u3,u4,u5,.int .u64 (p:Int),u7,.pointer (some ⟨b,0,none⟩),u9,u10,u11,u12,u13,u14,u15,u16,u17,u18,u19,u20,u21,u22,u23,u24,u25,u26,u27,u28,u29,u30,u31,u32,u33,u34,u35,u36,u37,.pointer (some ⟨g,0,none⟩),.pointer (some ⟨g,0,none⟩),.pointer (some ⟨g,5,none⟩),u41,u42,u43,u44,u45,u46,u47,u48,u49,u50,u51,u52,u53],defers:=[]} W.drew:=
      wpAnyH_take (i:=3) (oi:=⟨some 41,.load 3 (.tmp 40),3,"mmr.go:55",#[⟨2,.data⟩],none⟩) (v:=.int .i64 d) rfl (by kernel_rfl) (by kernel_rfl) (by kernel_rfl) (fun _ _ _ h=>hQ _ _ _ _ _ h) (Or.inl ⟨by rfl,fun w hw=>by have hx:w.cell? ⟨g,5,none⟩=some (.int .i64 d):=hw;go_simp⟩) hww t4
    have t2:wpAnyH Tryz.prog .any z16 Q (fun w:World=>w.cell? ⟨g,5,none⟩=some (.int .i64 d)) 8 #[true,true,false,false,false,false,false,false,false,false] {tmps:=#[.pointer (some ⟨g,0,none⟩),u1,u2,u3,u4,u5,.int .u64 (p:Int),u7,.pointer (some ⟨b,0,none⟩),u9,u10,u11,u12,u13,u14,u15,u16,u17,u18,u19,u20,u21,u22,u23,u24,u25,u26,u27,u28,u29,u30,u31,u32,u33,u34,u35,u36,u37,.pointer (some ⟨g,0,none⟩),.pointer (some ⟨g,0,none⟩),u40,u41,u42,u43,u44,u45,u46,u47,u48,u49,u50,u51,u52,u53],defers:=[]} W.drew:=
      wpAnyH_take (i:=2) (oi:=⟨some 40,.fieldAddr 71 (.tmp 39) 1,0,"mmr.go:55",#[⟨1,.data⟩],none⟩) (v:=.pointer (some ⟨g,5,none⟩)) rfl (by kernel_rfl) (by kernel_rfl) (by kernel_rfl) (fun _ _ _ h=>hQ _ _ _ _ _ h) (Yields.yieldsIf (Or.inl ⟨by rfl,fun W=>by go_simp⟩)) hww t3
    have t1:wpAnyH Tryz.prog .any z16 Q (fun w:World=>w.cell? ⟨g,5,none⟩=some (.int .i64 d)) 9 #[true,false,false,false,false,false,false,false,false,false] {tmps:=#[.pointer (some ⟨g,0,none⟩),u1,u2,u3,u4,u5,.int .u64 (p:Int),u7,.pointer (some ⟨b,0,none⟩),u9,u10,u11,u12,u13,u14,u15,u16,u17,u18,u19,u20,u21,u22,u23,u24,u25,u26,u27,u28,u29,u30,u31,u32,u33,u34,u35,u36,u37,.pointer (some ⟨g,0,none⟩),u39,u40,u41,u42,u43,u44,u45,u46,u47,u48,u49,u50,u51,u52,u53],defers:=[]} W.drew:=
      wpAnyH_take (i:=1) (oi:=⟨some 39,.nilCheck (.tmp 38),0,"mmr.go:55",#[⟨0,.data⟩],none⟩) (v:=.pointer (some ⟨g,0,none⟩)) rfl (by kernel_rfl) (by kernel_rfl) (by kernel_rfl) (fun _ _ _ h=>hQ _ _ _ _ _ h) (Yields.yieldsIf (Or.inl ⟨by rfl,fun W=>by go_simp⟩)) hww t2
    have t0:wpAnyH Tryz.prog .any z16 Q (fun w:World=>w.cell? ⟨g,5,none⟩=some (.int .i64 d)) 10 #[false,false,false,false,false,false,false,false,false,false] {tmps:=#[.pointer (some ⟨g,0,none⟩),u1,u2,u3,u4,u5,.int .u64 (p:Int),u7,.pointer (some ⟨b,0,none⟩),u9,u10,u11,u12,u13,u14,u15,u16,u17,u18,u19,u20,u21,u22,u23,u24,u25,u26,u27,u28,u29,u30,u31,u32,u33,u34,u35,u36,u37,u38,u39,u40,u41,u42,u43,u44,u45,u46,u47,u48,u49,u50,u51,u52,u53],defers:=[]} W.drew:=
      wpAnyH_take (i:=0) (oi:=⟨some 38,.move (.tmp 0),24,"mmr.go:55",#[],none⟩) (v:=.pointer (some ⟨g,0,none⟩)) rfl (by kernel_rfl) (by kernel_rfl) (by kernel_rfl) (fun _ _ _ h=>hQ _ _ _ _ _ h) (Yields.yieldsIf (Or.inl ⟨by rfl,fun W=>by go_simp⟩)) hww t1
    exact t0
  exact wp_region_held_drew (S:=(fun w:World=>w.cell? ⟨g,5,none⟩=some (.int .i64 d))) (by kernel_rfl) hww (fun _=>z)
end Go.Proofs.YthjeeblddipiiaaGreatDoor.HX

namespace Go.Proofs.YthjeeblddipiiaaGreatDoor.HX
open Go.RowKit
set_option maxRecDepth 100000
structure GROWING (w wx:World) (B g:Nat) (d:Int) (log n j b:Nat) (C Cj:z04) (f:Nat→Nat→Nat):Prop where
  store:STORE wx B g log (z05 n+1+j) (z05 n+1+j) (z05 n+1+j) Cj
  width:wx.cell? ⟨g,5,none⟩=some (.int .i64 d)
  size:wx.cell? ⟨g,6,none⟩=some (.int .u64 ((n+1:Nat):Int))
  free:wx.frozen? ⟨g,6,none⟩=false
  old:∀ h k,(k+1)*2 ^ h≤n→AT Cj log (PLC h k)=some (VAL d f h k)
  new:∀ i,i≤j→AT Cj log (z05 n+i)=some (VAL d f i (n / 2 ^ i))
  ones:ONES n j
  held:Has wx b (UARR .u8 32 (VAL d f j (n / 2 ^ j))) 32
  off:¬ FOOT wx g Cj b
  step:TSTEP w wx g C Cj
  below:Below B w wx
  base:w.heap.size≤b
theorem GROWING.lt {w wx:World} {B g:Nat} {d:Int} {log n j b:Nat} {C Cj:z04} {f:Nat→Nat→Nat} (h:GROWING w wx B g d log n j b C Cj f):b≠g∧b<wx.heap.size∧g<wx.heap.size:=by
  refine ⟨fun e=>?_,h.held.lt,h.store.lt⟩
  obtain ⟨cs,t,fr,k1,_,_,k4⟩:=h.store.kind
  have h1:=h.held
  unfold Has at h1
  rw [e,k1] at h1
  cases Option.some.inj h1
  exact k4 rfl
theorem GROWING.keep {w wx w':World} {B g:Nat} {d:Int} {log n j b:Nat} {C Cj:z04} {f:Nat→Nat→Nat} (h:GROWING w wx B g d log n j b C Cj f) (hBx:B≤wx.heap.size) (hb:Below wx.heap.size wx w'):GROWING w w' B g d log n j b C Cj f:=by
  have hg:=h.store.lt
  have hst:=STEP.below h.store hb
  refine ⟨h.store.below hb,(hb.cell (p:=⟨g,5,none⟩) hg).trans h.width,(hb.cell (p:=⟨g,6,none⟩) hg).trans h.size,(World.frozen?_of_block (w:=wx) (by exact hb.block g hg)).trans h.free,h.old,h.new,h.ones,h.held.keep hb,fun hf=>?_,h.step.trans hst.tree,h.below.trans (hb.mono hBx),h.base⟩
  rcases hst.foot b hf with h1 | h1
  · exact h.off h1
  · have:=h.lt.2.1
    omega
theorem GROWING.moved {w wx:World} {B g:Nat} {d:Int} {log n j b:Nat} {C Cj:z04} {f:Nat→Nat→Nat} (h:GROWING w wx B g d log n j b C Cj f) (hBx:B≤wx.heap.size):
    GROWING w (wx.alloc (.cells (UARR .u8 32 (VAL d f j (n / 2 ^ j))) 32)) B g d log n j wx.heap.size C Cj f:=by
  have hk:=h.keep hBx ((Below.refl _ _).alloc (Nat.le_refl _) (.cells (UARR .u8 32 (VAL d f j (n / 2 ^ j))) 32))
  refine ⟨hk.store,hk.width,hk.size,hk.free,hk.old,hk.new,hk.ones,Has.new _ _ _,fun hf=>?_,hk.step,hk.below,h.step.size⟩
  exact absurd (h.store.foot_lt (h.store.foot_below ((Below.refl wx.heap.size wx).alloc (Nat.le_refl _) _) hf)) (Nat.lt_irrefl _)
theorem GROWING.off_row {w wx:World} {B g:Nat} {d:Int} {log n j b:Nat} {C Cj:z04} {f:Nat→Nat→Nat} (h:GROWING w wx B g d log n j b C Cj f) (hBw:B≤w.heap.size) (y:Nat→Nat):
    STORE (wx.setRow b (UARR .u8 32 y)) B g log (z05 n+1+j) (z05 n+1+j) (z05 n+1+j) Cj∧(∀ i,(wx.setRow b (UARR .u8 32 y)).cell? ⟨g,i,none⟩=wx.cell? ⟨g,i,none⟩)∧(wx.setRow b (UARR .u8 32 y)).frozen? ⟨g,6,none⟩=false∧Has (wx.setRow b (UARR .u8 32 y)) b (UARR .u8 32 y) 32∧¬ FOOT (wx.setRow b (UARR .u8 32 y)) g Cj b∧TSTEP w (wx.setRow b (UARR .u8 32 y)) g C Cj∧Below B w (wx.setRow b (UARR .u8 32 y)):=by
  have hblk:∀ x,x≠b→(wx.setRow b (UARR .u8 32 y)).heap[x]?=wx.heap[x]?:=fun x hx=>setRow_other wx b x _ hx
  have hsz:(wx.setRow b (UARR .u8 32 y)).heap.size=wx.heap.size:=by simp
  obtain ⟨hbg,hbl,hgl⟩:=h.lt
  obtain ⟨s1,s2,s3⟩:=h.store.same (b:=b) (fun x _ hx=>hblk x hx) h.off (fun e=>hbg e.symm)
  refine ⟨s1,s3,(World.frozen?_of_block (w:=wx) (by exact hblk g (fun e=>hbg e.symm))).trans h.free,h.held.row _,fun hf=>h.off (s2 b hf),⟨fun x hx=>h.step.foot x (s2 x hx),fun x hx hxg hf=>?_,by rw [hsz];exact h.step.size⟩,z0a h.below (Nat.le_trans hBw h.base) _⟩
  have hxb:x≠b:=fun e=>by have:=h.base;omega
  exact (hblk x hxb).trans (h.step.same x hx hxg hf)
theorem z6E {w wx w':World} {B g:Nat} {d:Int} {log n j b:Nat} {C Cj:z04} {f:Nat→Nat→Nat} {y:Nat→Nat}
    (hw5:wx.cell? ⟨g,5,none⟩=some (.int .i64 d)) (hw6:wx.cell? ⟨g,6,none⟩=some (.int .u64 ((n+1:Nat):Int)))
    (hold:∀ h k,(k+1)*2 ^ h≤n→AT Cj log (PLC h k)=some (VAL d f h k)) (hnew:∀ i,i≤j→AT Cj log (z05 n+i)=some (VAL d f i (n / 2 ^ i))) (hones:ONES n (j+1))
    (hheld:Has wx b (UARR .u8 32 y) 32) (hy:y=VAL d f (j+1) (n / 2 ^ (j+1))) (hoff:¬ FOOT wx g Cj b) (hbg:b≠g) (hstep:TSTEP w wx g C Cj) (hbel:Below B w wx) (hbase:w.heap.size≤b)
    (hP:z3K wx B g log (z05 n+1+j) (z05 n+1+j) (z05 n+1+j) Cj y w'):∃ C',GROWING w w' B g d log n (j+1) b C C' f:=by
  obtain ⟨C',s1,s2,s3,s4⟩:=hP
  have hbl:=hheld.lt
  refine ⟨C',⟨s1,(s3.pins 5 (by decide)).trans hw5,(s3.pins 6 (by decide)).trans hw6,s1.live 6 (by decide),fun h k hk=>?_,fun i hi=>?_,hones,?_,fun hf=>?_,hstep.trans s3.tree,hbel.trans s4,hbase⟩⟩
  · rw [s2,if_neg ?_]
    · exact hold h k hk
    · have h1:=z3o hk
      omega
  · by_cases e:i=j+1
    · subst e
      rw [s2,if_pos (by omega),hy]
    · rw [s2,if_neg (by omega)]
      exact hnew i (by omega)
  · rw [← hy]
    exact (s3.same b hbl hbg hoff).trans hheld
  · rcases s3.foot b hf with h1 | h1
    · exact hoff h1
    · omega
end Go.Proofs.YthjeeblddipiiaaGreatDoor.HX
