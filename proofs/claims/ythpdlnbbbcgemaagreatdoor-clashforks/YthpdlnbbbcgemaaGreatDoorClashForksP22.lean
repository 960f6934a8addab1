/- Texts of ClashForks, one behind the other: VerifyReachRegion, CutJoins. -/
import Derived.Test.YthpdlnbbbcgemaaGreatDoorClashForksP7
namespace Go.Proofs.YthpdlnbbbcgemaaGreatDoor
open Go.RowKit
set_option maxRecDepth 100000
def z1z:Array Oper:=#[⟨some 51,.move (.tmp 9),112,"verify.go:62",#[],none⟩,⟨some 52,.fieldAddr 50 (.tmp 3) 0,0,"verify.go:62",#[],none⟩,⟨some 53,.load 22 (.tmp 52),22,"verify.go:62",#[⟨1,.data⟩],none⟩,⟨some 54,.call {callee:=.value (.func 73),args:=#[.tmp 51,.tmp 53],argTypes:=#[112,22]},40,"verify.go:62",#[⟨0,.data⟩,⟨2,.data⟩],none⟩,⟨some 55,.move (.tmp 9),112,"verify.go:62",#[],none⟩,⟨some 56,.fieldAddr 50 (.tmp 3) 1,0,"verify.go:62",#[],none⟩,⟨some 57,.load 22 (.tmp 56),22,"verify.go:62",#[⟨5,.data⟩],none⟩,⟨some 58,.call {callee:=.value (.func 73),args:=#[.tmp 55,.tmp 57],argTypes:=#[112,22]},40,"verify.go:62",#[⟨4,.data⟩,⟨6,.data⟩,⟨3,.chain⟩],none⟩,⟨some 4,.assign (.tmp 54),40,"verify.go:62",#[⟨3,.data⟩,⟨7,.chain⟩,⟨0,.phase⟩,⟨1,.phase⟩,⟨2,.phase⟩,⟨3,.phase⟩,{on:=4,ground:=.textOnly Departure.lateStores},{on:=5,ground:=.textOnly Departure.lateStores},{on:=6,ground:=.textOnly Departure.lateStores},{on:=7,ground:=.textOnly Departure.lateStoresUnsure}],none⟩,⟨some 5,.assign (.tmp 58),40,"verify.go:62",#[⟨7,.data⟩,⟨8,.chain⟩,⟨0,.phase⟩,⟨1,.phase⟩,⟨2,.phase⟩,⟨3,.phase⟩,⟨4,.phase⟩,⟨5,.phase⟩,⟨6,.phase⟩,⟨7,.phase⟩,⟨8,.phase⟩],none⟩,⟨some 6,.assign (.const (.int .i64 0)),27,"verify.go:62",#[⟨9,.chain⟩,⟨0,.phase⟩,⟨1,.phase⟩,⟨2,.phase⟩,⟨3,.phase⟩,⟨4,.phase⟩,⟨5,.phase⟩,⟨6,.phase⟩,⟨7,.phase⟩,⟨8,.phase⟩,⟨9,.phase⟩],none⟩]
set_option maxHeartbeats 2000000 in
theorem z93 {Q:Exit→Act→World→Prop} (u0 u1 u2 u4 u5 u6 u7 u8 u10 u11 u12 u13 u14 u15 u16 u17 u18 u19 u20 u21 u22 u23 u24 u25 u26 u27 u28 u29 u30 u31 u32 u33 u34 u35 u36 u37 u38 u39 u40 u41 u42 u43 u44 u45 u46 u47 u48 u49 u50 u51 u52 u53 u54 u55 u56 u57 u58:Value) (W:World) (mb b3 F S:Nat) (P0:World→Prop) (P1:Value→World→Prop) (P2:Value→Value→World→Prop) (t0:∀ w,P0 w→(fun W:World=>W.cell? ⟨b3,0,none⟩=some (.int .u64 (F:Int))∧W.cell? ⟨b3,1,none⟩=some (.int .u64 (S:Int))) w) (t1:∀ X w,P1 X w→(fun W:World=>W.cell? ⟨b3,0,none⟩=some (.int .u64 (F:Int))∧W.cell? ⟨b3,1,none⟩=some (.int .u64 (S:Int))) w) (t2:∀ X Y w,P2 X Y w→(fun W:World=>W.cell? ⟨b3,0,none⟩=some (.int .u64 (F:Int))∧W.cell? ⟨b3,1,none⟩=some (.int .u64 (S:Int))) w) (c1:∀ w,P0 w→Calls Tryz.prog 73 #[.map (some mb),.int .u64 (F:Int)] w fun e w'=>∃ X,e=.returned X∧P1 X w') (c2:∀ X w,P1 X w→Calls Tryz.prog 73 #[.map (some mb),.int .u64 (S:Int)] w fun e w'=>∃ Y,e=.returned Y∧P2 X Y w') (h0:P0 W.drew) (hQ:∀ c (a:Act) (t:Tmp) (v:Value) w,Q (.panic c) (a.put (some t) v) w→Q (.panic c) a w)
    (hfin:∀ (X Y:Value) (w:World),P2 X Y w→Q .normal {tmps:=#[u0,u1,u2,.pointer (some ⟨b3,0,none⟩),X,Y,.int .i64 0,u7,u8,.map (some mb),u10,u11,u12,u13,u14,u15,u16,u17,u18,u19,u20,u21,u22,u23,u24,u25,u26,u27,u28,u29,u30,u31,u32,u33,u34,u35,u36,u37,u38,u39,u40,u41,u42,u43,u44,u45,u46,u47,u48,u49,u50,.map (some mb),.pointer (some ⟨b3,0,none⟩),.int .u64 (F:Int),X,.map (some mb),.pointer (some ⟨b3,1,none⟩),.int .u64 (S:Int),Y],defers:=[]} w):(Code.region 12 z1z true).wp Tryz.prog Q {tmps:=#[u0,u1,u2,.pointer (some ⟨b3,0,none⟩),u4,u5,u6,u7,u8,.map (some mb),u10,u11,u12,u13,u14,u15,u16,u17,u18,u19,u20,u21,u22,u23,u24,u25,u26,u27,u28,u29,u30,u31,u32,u33,u34,u35,u36,u37,u38,u39,u40,u41,u42,u43,u44,u45,u46,u47,u48,u49,u50,u51,u52,u53,u54,u55,u56,u57,u58],defers:=[]} W:=by
  have k2:∀ (X Y:Value) (w:World),P2 X Y w→wpAnyH Tryz.prog .any z1z Q (fun W:World=>W.cell? ⟨b3,0,none⟩=some (.int .u64 (F:Int))∧W.cell? ⟨b3,1,none⟩=some (.int .u64 (S:Int))) 3 #[true,true,true,true,true,true,true,true,false,false,false] {tmps:=#[u0,u1,u2,.pointer (some ⟨b3,0,none⟩),u4,u5,u6,u7,u8,.map (some mb),u10,u11,u12,u13,u14,u15,u16,u17,u18,u19,u20,u21,u22,u23,u24,u25,u26,u27,u28,u29,u30,u31,u32,u33,u34,u35,u36,u37,u38,u39,u40,u41,u42,u43,u44,u45,u46,u47,u48,u49,u50,.map (some mb),.pointer (some ⟨b3,0,none⟩),.int .u64 (F:Int),X,.map (some mb),.pointer (some ⟨b3,1,none⟩),.int .u64 (S:Int),Y],defers:=[]} w:=fun X Y w hp=>by
    have hww:(fun W:World=>W.cell? ⟨b3,0,none⟩=some (.int .u64 (F:Int))∧W.cell? ⟨b3,1,none⟩=some (.int .u64 (S:Int))) w:=t2 _ _ _ hp
    have last:wpAnyH Tryz.prog .any z1z Q (fun W:World=>W.cell? ⟨b3,0,none⟩=some (.int .u64 (F:Int))∧W.cell? ⟨b3,1,none⟩=some (.int .u64 (S:Int))) 0 #[true,true,true,true,true,true,true,true,true,true,true] {tmps:=#[u0,u1,u2,.pointer (some ⟨b3,0,none⟩),X,Y,.int .i64 0,u7,u8,.map (some mb),u10,u11,u12,u13,u14,u15,u16,u17,u18,u19,u20,u21,u22,u23,u24,u25,u26,u27,u28,u29,u30,u31,u32,u33,u34,u35,u36,u37,u38,u39,u40,u41,u42,u43,u44,u45,u46,u47,u48,u49,u50,.map (some mb),.pointer (some ⟨b3,0,none⟩),.int .u64 (F:Int),X,.map (some mb),.pointer (some ⟨b3,1,none⟩),.int .u64 (S:Int),Y],defers:=[]} w:=wpAnyH_done (by kernel_rfl) (hfin X Y w hp) _
    have t10:wpAnyH Tryz.prog .any z1z Q (fun W:World=>W.cell? ⟨b3,0,none⟩=some (.int .u64 (F:Int))∧W.cell? ⟨b3,1,none⟩=some (.int .u64 (S:Int))) 1 #[true,true,true,true,true,true,true,true,true,true,false] {tmps:=#[u0,u1,u2,.pointer (some ⟨b3,0,none⟩),X,Y,u6,u7,u8,.map (some mb),u10,u11,u12,u13,u14,u15,u16,u17,u18,u19,u20,u21,u22,u23,u24,u25,u26,u27,u28,u29,u30,u31,u32,u33,u34,u35,u36,u37,u38,u39,u40,u41,u42,u43,u44,u45,u46,u47,u48,u49,u50,.map (some mb),.pointer (some ⟨b3,0,none⟩),.int .u64 (F:Int),X,.map (some mb),.pointer (some ⟨b3,1,none⟩),.int .u64 (S:Int),Y],defers:=[]} w:=
      wpAnyH_take (i:=10) (oi:=⟨some 6,.assign (.const (.int .i64 0)),27,"verify.go:62",#[⟨9,.chain⟩,⟨0,.phase⟩,⟨1,.phase⟩,⟨2,.phase⟩,⟨3,.phase⟩,⟨4,.phase⟩,⟨5,.phase⟩,⟨6,.phase⟩,⟨7,.phase⟩,⟨8,.phase⟩,⟨9,.phase⟩],none⟩) (v:=.int .i64 0) rfl (by kernel_rfl) (by kernel_rfl) (by kernel_rfl) (fun _ _ _ h=>hQ _ _ _ _ _ h) (Yields.yieldsIf (Or.inl ⟨by rfl,fun W=>by go_simp⟩)) hww last
    have t9:wpAnyH Tryz.prog .any z1z Q (fun W:World=>W.cell? ⟨b3,0,none⟩=some (.int .u64 (F:Int))∧W.cell? ⟨b3,1,none⟩=some (.int .u64 (S:Int))) 2 #[true,true,true,true,true,true,true,true,true,false,false] {tmps:=#[u0,u1,u2,.pointer (some ⟨b3,0,none⟩),X,u5,u6,u7,u8,.map (some mb),u10,u11,u12,u13,u14,u15,u16,u17,u18,u19,u20,u21,u22,u23,u24,u25,u26,u27,u28,u29,u30,u31,u32,u33,u34,u35,u36,u37,u38,u39,u40,u41,u42,u43,u44,u45,u46,u47,u48,u49,u50,.map (some mb),.pointer (some ⟨b3,0,none⟩),.int .u64 (F:Int),X,.map (some mb),.pointer (some ⟨b3,1,none⟩),.int .u64 (S:Int),Y],defers:=[]} w:=
      wpAnyH_take (i:=9) (oi:=⟨some 5,.assign (.tmp 58),40,"verify.go:62",#[⟨7,.data⟩,⟨8,.chain⟩,⟨0,.phase⟩,⟨1,.phase⟩,⟨2,.phase⟩,⟨3,.phase⟩,⟨4,.phase⟩,⟨5,.phase⟩,⟨6,.phase⟩,⟨7,.phase⟩,⟨8,.phase⟩],none⟩) (v:=Y) rfl (by kernel_rfl) (by kernel_rfl) (by kernel_rfl) (fun _ _ _ h=>hQ _ _ _ _ _ h) (Yields.yieldsIf (Or.inl ⟨by rfl,fun W=>by go_simp⟩)) hww t10
    have t8:wpAnyH Tryz.prog .any z1z Q (fun W:World=>W.cell? ⟨b3,0,none⟩=some (.int .u64 (F:Int))∧W.cell? ⟨b3,1,none⟩=some (.int .u64 (S:Int))) 3 #[true,true,true,true,true,true,true,true,false,false,false] {tmps:=#[u0,u1,u2,.pointer (some ⟨b3,0,none⟩),u4,u5,u6,u7,u8,.map (some mb),u10,u11,u12,u13,u14,u15,u16,u17,u18,u19,u20,u21,u22,u23,u24,u25,u26,u27,u28,u29,u30,u31,u32,u33,u34,u35,u36,u37,u38,u39,u40,u41,u42,u43,u44,u45,u46,u47,u48,u49,u50,.map (some mb),.pointer (some ⟨b3,0,none⟩),.int .u64 (F:Int),X,.map (some mb),.pointer (some ⟨b3,1,none⟩),.int .u64 (S:Int),Y],defers:=[]} w:=
      wpAnyH_take (i:=8) (oi:=⟨some 4,.assign (.tmp 54),40,"verify.go:62",#[⟨3,.data⟩,⟨7,.chain⟩,⟨0,.phase⟩,⟨1,.phase⟩,⟨2,.phase⟩,⟨3,.phase⟩,{on:=4,ground:=.textOnly Departure.lateStores},{on:=5,ground:=.textOnly Departure.lateStores},{on:=6,ground:=.textOnly Departure.lateStores},{on:=7,ground:=.textOnly Departure.lateStoresUnsure}],none⟩) (v:=X) rfl (by kernel_rfl) (by kernel_rfl) (by kernel_rfl) (fun _ _ _ h=>hQ _ _ _ _ _ h) (Yields.yieldsIf (Or.inl ⟨by rfl,fun W=>by go_simp⟩)) hww t9
    exact t8
  have k1:∀ (X:Value) (w:World),P1 X w→wpAnyH Tryz.prog .any z1z Q (fun W:World=>W.cell? ⟨b3,0,none⟩=some (.int .u64 (F:Int))∧W.cell? ⟨b3,1,none⟩=some (.int .u64 (S:Int))) 4 #[true,true,true,true,true,true,true,false,false,false,false] {tmps:=#[u0,u1,u2,.pointer (some ⟨b3,0,none⟩),u4,u5,u6,u7,u8,.map (some mb),u10,u11,u12,u13,u14,u15,u16,u17,u18,u19,u20,u21,u22,u23,u24,u25,u26,u27,u28,u29,u30,u31,u32,u33,u34,u35,u36,u37,u38,u39,u40,u41,u42,u43,u44,u45,u46,u47,u48,u49,u50,.map (some mb),.pointer (some ⟨b3,0,none⟩),.int .u64 (F:Int),X,.map (some mb),.pointer (some ⟨b3,1,none⟩),.int .u64 (S:Int),u58],defers:=[]} w:=fun X w hp=>by
    have hww:(fun W:World=>W.cell? ⟨b3,0,none⟩=some (.int .u64 (F:Int))∧W.cell? ⟨b3,1,none⟩=some (.int .u64 (S:Int))) w:=t1 _ _ hp
    have last:wpAnyH Tryz.prog .any z1z Q (fun W:World=>W.cell? ⟨b3,0,none⟩=some (.int .u64 (F:Int))∧W.cell? ⟨b3,1,none⟩=some (.int .u64 (S:Int))) 4 #[true,true,true,true,true,true,true,false,false,false,false] {tmps:=#[u0,u1,u2,.pointer (some ⟨b3,0,none⟩),u4,u5,u6,u7,u8,.map (some mb),u10,u11,u12,u13,u14,u15,u16,u17,u18,u19,u20,u21,u22,u23,u24,u25,u26,u27,u28,u29,u30,u31,u32,u33,u34,u35,u36,u37,u38,u39,u40,u41,u42,u43,u44,u45,u46,u47,u48,u49,u50,.map (some mb),.pointer (some ⟨b3,0,none⟩),.int .u64 (F:Int),X,.map (some mb),.pointer (some ⟨b3,1,none⟩),.int .u64 (S:Int),u58],defers:=[]} w:=by
      refine z21 (o:=⟨some 58,.call {callee:=.value (.func 73),args:=#[.tmp 55,.tmp 57],argTypes:=#[112,22]},40,"verify.go:62",#[⟨4,.data⟩,⟨6,.data⟩,⟨3,.chain⟩],none⟩) 7 (by kernel_rfl) rfl (fun K hK=>?_)
      rw [if_pos (by rfl)]
      go_simp
      refine (c2 X w hp).mono ?_
      rintro e w' ⟨Y,rfl,hp⟩
      exact hK.out _ _ (t2 _ _ _ hp) (fun _=>k2 X Y w' hp)
    exact last
  have k0:∀ (w:World),P0 w→wpAnyH Tryz.prog .any z1z Q (fun W:World=>W.cell? ⟨b3,0,none⟩=some (.int .u64 (F:Int))∧W.cell? ⟨b3,1,none⟩=some (.int .u64 (S:Int))) 11 #[false,false,false,false,false,false,false,false,false,false,false] {tmps:=#[u0,u1,u2,.pointer (some ⟨b3,0,none⟩),u4,u5,u6,u7,u8,.map (some mb),u10,u11,u12,u13,u14,u15,u16,u17,u18,u19,u20,u21,u22,u23,u24,u25,u26,u27,u28,u29,u30,u31,u32,u33,u34,u35,u36,u37,u38,u39,u40,u41,u42,u43,u44,u45,u46,u47,u48,u49,u50,u51,u52,u53,u54,u55,u56,u57,u58],defers:=[]} w:=fun  w hp=>by
    have hww:(fun W:World=>W.cell? ⟨b3,0,none⟩=some (.int .u64 (F:Int))∧W.cell? ⟨b3,1,none⟩=some (.int .u64 (S:Int))) w:=t0 _ hp
    have last:wpAnyH Tryz.prog .any z1z Q (fun W:World=>W.cell? ⟨b3,0,none⟩=some (.int .u64 (F:Int))∧W.cell? ⟨b3,1,none⟩=some (.int .u64 (S:Int))) 5 #[true,true,true,false,true,true,true,false,false,false,false] {tmps:=#[u0,u1,u2,.pointer (some ⟨b3,0,none⟩),u4,u5,u6,u7,u8,.map (some mb),u10,u11,u12,u13,u14,u15,u16,u17,u18,u19,u20,u21,u22,u23,u24,u25,u26,u27,u28,u29,u30,u31,u32,u33,u34,u35,u36,u37,u38,u39,u40,u41,u42,u43,u44,u45,u46,u47,u48,u49,u50,.map (some mb),.pointer (some ⟨b3,0,none⟩),.int .u64 (F:Int),u54,.map (some mb),.pointer (some ⟨b3,1,none⟩),.int .u64 (S:Int),u58],defers:=[]} w:=by
      refine z21 (o:=⟨some 54,.call {callee:=.value (.func 73),args:=#[.tmp 51,.tmp 53],argTypes:=#[112,22]},40,"verify.go:62",#[⟨0,.data⟩,⟨2,.data⟩],none⟩) 3 (by kernel_rfl) rfl (fun K hK=>?_)
      rw [if_pos (by rfl)]
      go_simp
      refine (c1 w hp).mono ?_
      rintro e w' ⟨X,rfl,hp⟩
      exact hK.out _ _ (t1 _ _ hp) (fun _=>k1 X w' hp)
    have t6:wpAnyH Tryz.prog .any z1z Q (fun W:World=>W.cell? ⟨b3,0,none⟩=some (.int .u64 (F:Int))∧W.cell? ⟨b3,1,none⟩=some (.int .u64 (S:Int))) 6 #[true,true,true,false,true,true,false,false,false,false,false] {tmps:=#[u0,u1,u2,.pointer (some ⟨b3,0,none⟩),u4,u5,u6,u7,u8,.map (some mb),u10,u11,u12,u13,u14,u15,u16,u17,u18,u19,u20,u21,u22,u23,u24,u25,u26,u27,u28,u29,u30,u31,u32,u33,u34,u35,u36,u37,u38,u39,u40,u41,u42,u43,u44,u45,u46,u47,u48,u49,u50,.map (some mb),.pointer (some ⟨b3,0,none⟩),.int .u64 (F:Int),u54,.map (some mb),.pointer (some ⟨b3,1,none⟩),u57,u58],defers:=[]} w:=
      wpAnyH_take (i:=6) (oi:=⟨some 57,.load 22 (.tmp 56),22,"verify.go:62",#[⟨5,.data⟩],none⟩) (v:=.int .u64 (S:Int)) rfl (by kernel_rfl) (by kernel_rfl) (by kernel_rfl) (fun _ _ _ h=>hQ _ _ _ _ _ h) (Or.inl ⟨by rfl,fun w hw=>by have hx:=hw.2;go_simp⟩) hww last
    have t5:wpAnyH Tryz.prog .any z1z Q (fun W:World=>W.cell? ⟨b3,0,none⟩=some (.int .u64 (F:Int))∧W.cell? ⟨b3,1,none⟩=some (.int .u64 (S:Int))) 7 #[true,true,true,false,true,false,false,false,false,false,false] {tmps:=#[u0,u1,u2,.pointer (some ⟨b3,0,none⟩),u4,u5,u6,u7,u8,.map (some mb),u10,u11,u12,u13,u14,u15,u16,u17,u18,u19,u20,u21,u22,u23,u24,u25,u26,u27,u28,u29,u30,u31,u32,u33,u34,u35,u36,u37,u38,u39,u40,u41,u42,u43,u44,u45,u46,u47,u48,u49,u50,.map (some mb),.pointer (some ⟨b3,0,none⟩),.int .u64 (F:Int),u54,.map (some mb),u56,u57,u58],defers:=[]} w:=
      wpAnyH_take (i:=5) (oi:=⟨some 56,.fieldAddr 50 (.tmp 3) 1,0,"verify.go:62",#[],none⟩) (v:=.pointer (some ⟨b3,1,none⟩)) rfl (by kernel_rfl) (by kernel_rfl) (by kernel_rfl) (fun _ _ _ h=>hQ _ _ _ _ _ h) (Yields.yieldsIf (Or.inl ⟨by rfl,fun W=>by go_simp⟩)) hww t6
    have t4:wpAnyH Tryz.prog .any z1z Q (fun W:World=>W.cell? ⟨b3,0,none⟩=some (.int .u64 (F:Int))∧W.cell? ⟨b3,1,none⟩=some (.int .u64 (S:Int))) 8 #[true,true,true,false,false,false,false,false,false,false,false] {tmps:=#[u0,u1,u2,.pointer (some ⟨b3,0,none⟩),u4,u5,u6,u7,u8,.map (some mb),u10,u11,u12,u13,u14,u15,u16,u17,u18,u19,u20,u21,u22,u23,u24,u25,u26,u27,u28,u29,u30,u31,u32,u33,u34,u35,u36,u37,u38,u39,u40,u41,u42,u43,u44,u45,u46,u47,u48,u49,u50,.map (some mb),.pointer (some ⟨b3,0,none⟩),.int .u64 (F:Int),u54,u55,u56,u57,u58],defers:=[]} w:=
      wpAnyH_take (i:=4) (oi:=⟨some 55,.move (.tmp 9),112,"verify.go:62",#[],none⟩) (v:=.map (some mb)) rfl (by kernel_rfl) (by kernel_rfl) (by kernel_rfl) (fun _ _ _ h=>hQ _ _ _ _ _ h) (Yields.yieldsIf (Or.inl ⟨by rfl,fun W=>by go_simp⟩)) hww t5
    have t2:wpAnyH Tryz.prog .any z1z Q (fun W:World=>W.cell? ⟨b3,0,none⟩=some (.int .u64 (F:Int))∧W.cell? ⟨b3,1,none⟩=some (.int .u64 (S:Int))) 9 #[true,true,false,false,false,false,false,false,false,false,false] {tmps:=#[u0,u1,u2,.pointer (some ⟨b3,0,none⟩),u4,u5,u6,u7,u8,.map (some mb),u10,u11,u12,u13,u14,u15,u16,u17,u18,u19,u20,u21,u22,u23,u24,u25,u26,u27,u28,u29,u30,u31,u32,u33,u34,u35,u36,u37,u38,u39,u40,u41,u42,u43,u44,u45,u46,u47,u48,u49,u50,.map (some mb),.pointer (some ⟨b3,0,none⟩),u53,u54,u55,u56,u57,u58],defers:=[]} w:=
      wpAnyH_take (i:=2) (oi:=⟨some 53,.load 22 (.tmp 52),22,"verify.go:62",#[⟨1,.data⟩],none⟩) (v:=.int .u64 (F:Int)) rfl (by kernel_rfl) (by kernel_rfl) (by kernel_rfl) (fun _ _ _ h=>hQ _ _ _ _ _ h) (Or.inl ⟨by rfl,fun w hw=>by have hx:=hw.1;go_simp⟩) hww t4
    have t1:wpAnyH Tryz.prog .any z1z Q (fun W:World=>W.cell? ⟨b3,0,none⟩=some (.int .u64 (F:Int))∧W.cell? ⟨b3,1,none⟩=some (.int .u64 (S:Int))) 10 #[true,false,false,false,false,false,false,false,false,false,false] {tmps:=#[u0,u1,u2,.pointer (some ⟨b3,0,none⟩),u4,u5,u6,u7,u8,.map (some mb),u10,u11,u12,u13,u14,u15,u16,u17,u18,u19,u20,u21,u22,u23,u24,u25,u26,u27,u28,u29,u30,u31,u32,u33,u34,u35,u36,u37,u38,u39,u40,u41,u42,u43,u44,u45,u46,u47,u48,u49,u50,.map (some mb),u52,u53,u54,u55,u56,u57,u58],defers:=[]} w:=
      wpAnyH_take (i:=1) (oi:=⟨some 52,.fieldAddr 50 (.tmp 3) 0,0,"verify.go:62",#[],none⟩) (v:=.pointer (some ⟨b3,0,none⟩)) rfl (by kernel_rfl) (by kernel_rfl) (by kernel_rfl) (fun _ _ _ h=>hQ _ _ _ _ _ h) (Yields.yieldsIf (Or.inl ⟨by rfl,fun W=>by go_simp⟩)) hww t2
    have t0:wpAnyH Tryz.prog .any z1z Q (fun W:World=>W.cell? ⟨b3,0,none⟩=some (.int .u64 (F:Int))∧W.cell? ⟨b3,1,none⟩=some (.int .u64 (S:Int))) 11 #[false,false,false,false,false,false,false,false,false,false,false] {tmps:=#[u0,u1,u2,.pointer (some ⟨b3,0,none⟩),u4,u5,u6,u7,u8,.map (some mb),u10,u11,u12,u13,u14,u15,u16,u17,u18,u19,u20,u21,u22,u23,u24,u25,u26,u27,u28,u29,u30,u31,u32,u33,u34,u35,u36,u37,u38,u39,u40,u41,u42,u43,u44,u45,u46,u47,u48,u49,u50,u51,u52,u53,u54,u55,u56,u57,u58],defers:=[]} w:=
      wpAnyH_take (i:=0) (oi:=⟨some 51,.move (.tmp 9),112,"verify.go:62",#[],none⟩) (v:=.map (some mb)) rfl (by kernel_rfl) (by kernel_rfl) (by kernel_rfl) (fun _ _ _ h=>hQ _ _ _ _ _ h) (Yields.yieldsIf (Or.inl ⟨by rfl,fun W=>by go_simp⟩)) hww t1
    exact t0
  have hp:=h0
  exact wp_region_held_drew (S:=(fun W:World=>W.cell? ⟨b3,0,none⟩=some (.int .u64 (F:Int))∧W.cell? ⟨b3,1,none⟩=some (.int .u64 (S:Int)))) (by kernel_rfl) (t0 _ hp) (fun _=>k0 _ hp)
end Go.Proofs.YthpdlnbbbcgemaaGreatDoor

namespace Go.Proofs.YthpdlnbbbcgemaaGreatDoor
open Go.RowKit
def JF (n k:Nat):Nat→Nat→List (Nat × Nat)
  | 0,_=>[]
  | f+1,h=>if (n / 2 ^ h+1)*2 ^ h≤n+k then (h,n / 2 ^ h) :: JF n k f (h+1) else []
theorem z7F (n k:Nat):∀ f h,(JF n k f h).length≤f:=by
  intro f
  induction f with
  | zero=>intro h;exact Nat.le_refl _
  | succ f ih=>
    intro h
    unfold JF
    split
    · have:=ih (h+1)
      simp
      exact this
    · simp
def LOWS (n t:Nat):Prop:=t≤64∧(n=0→t=64)∧∀ h,h≤64→(n % 2 ^ h=0↔h≤t)
theorem zeP:LEN 4611686018427387904=63:=by decide +kernel
theorem z75 (t:Nat) (h:t≤64):wrap64 ((t:Int)+1)=((t+1:Nat):Int):=by unfold wrap64;omega
set_option maxHeartbeats 1000000 in
theorem zeQ (n k:Nat) (hnk:n+k≤4611686018427387904):∃ t,LOWS n t∧∀ w,Tabled w→0<w.heap.size→Calls Tryz.prog 79 #[.int .u64 (n:Int),.int .u64 (k:Int)] w fun e w'=>
    ∃ v,e=.returned v∧w'.ownsRow w.heap.size 79 2 v (JF n k (62 - t) (t+1)).length (z05 (JF n k (62 - t) (t+1)))∧Below w.heap.size w w':=by
  obtain ⟨t,ht,ht0,hd,cl⟩:=z6Y n (by omega)
  refine ⟨t,⟨ht,ht0,hd⟩,fun w hT h0=>?_⟩
  have cl:=cl w hT
  have ch:=z6O 4611686018427387904 (by decide)
  rw [zeP] at ch
  have hsm:n<4611686018427387904∨62≤t:=by
    rcases Nat.lt_or_ge n 4611686018427387904 with h | h
    · exact .inl h
    · right
      obtain rfl:n=4611686018427387904:=by omega
      exact (hd 62 (by omega)).1 (by decide)
  have HA:Aside (n+k≤4611686018427387904∧t≤64∧(n<4611686018427387904∨62≤t)):=⟨hnk,ht,hsm⟩
  have hg1:¬ (4611686018427387904:Int)<(n:Int):=by omega
  have hg2:IntKind.u64.wrap (4611686018427387904 - (n:Int))=((4611686018427387904 - n:Nat):Int):=by rw [z06];omega
  have hg3:¬ ((4611686018427387904 - n:Nat):Int)<(k:Int):=by omega
  obtain ⟨d,hdd⟩:∃ d,4611686018427387904 - n=d:=⟨_,rfl⟩
  rw [hdd] at hg2 hg3
  obtain ⟨t1,ht1⟩:∃ t1,t+1=t1:=⟨_,rfl⟩
  have hw:wrap64 ((t:Int)+1)=(t1:Int):=by rw [← ht1];exact z75 t ht
  have HT1:Aside (t+1=t1):=ht1
  clear hnk ht hsm hd ht0 hT h0 hdd ht1
  go_enter Tryz.func79,Tryz.ntmps79
  go_wp2_with fail
  refine cl.mono ?_
  rintro e w' ⟨rfl,rfl⟩
  clear cl
  go_wp2
  clear hw hg1 hg2 hg3
  go_loopg [5,6] (65 - t) (fun g s5 s6 wx=>∃ (h:Nat) (pre:List (Nat × Nat)),s6=.int .i64 (h:Int)∧Aside (h≤65∧g+h=66∧t+1≤h∧pre ++ JF n k (63 - h) h=JF n k (62 - t) (t+1)∧pre.length≤66∧wx.ownsRow w.heap.size 79 2 s5 pre.length (z05 pre)∧Below w.heap.size w wx))
  case atStart=>
    have h64:=HA.out.2.1
    refine ⟨t+1,[],by first | rfl | rw [z75 t h64],by omega,by omega,Nat.le_refl _,?_,by simp,World.ownsRow_nil _ _ _ _,Below.refl _ _⟩
    rw [show 63 - (t+1)=62 - t by omega]
    rfl
  case round=>
    obtain ⟨h,pre,rfl,A⟩:=hrel
    obtain ⟨r1,r2,r3,r4,r5,r6,r7⟩:=A.out
    obtain ⟨a1,a2,a3⟩:=HA.out
    by_cases hle:h≤62
    · have hle':(h:Int)≤62:=by omega
      have hN:=Node.over (i:=n) (by omega) h hle
      have ce:=fun w=>zcD h (n / 2 ^ h) hN w
      obtain ⟨f,hf⟩:∃ f,63 - h=f+1:=⟨62 - h,by omega⟩
      obtain ⟨E,hE⟩:∃ E,(n / 2 ^ h+1)*2 ^ h=E:=⟨_,rfl⟩
      obtain ⟨K,hK⟩:∃ K,n / 2 ^ h=K:=⟨_,rfl⟩
      have hJ:JF n k (63 - h) h=if E≤n+k then (h,K) :: JF n k (63 - (h+1)) (h+1) else []:=by
        rw [hf,← hE,← hK,show 63 - (h+1)=f by omega]
        rfl
      rw [hJ] at r4
      rw [hE,hK] at ce
      have e8:(h:Int) % 256=(h:Int):=by omega
      have e9:(n:Int) / 2 ^ min h 64=(K:Int):=by rw [show min h 64=h by omega,z1O,hK]
      have e9':(n:Int) / 2 ^ h=(K:Int):=by rw [z1O,hK]
      have h00:¬ (h:Int)<0:=by omega
      obtain ⟨S,hS⟩:∃ S,n+k=S:=⟨_,rfl⟩
      have hs:IntKind.u64.wrap ((n:Int)+(k:Int))=(S:Int):=by rw [z06];omega
      rw [hS] at r4
      by_cases hES:E≤S
      · have hES':¬ (S:Int)<(E:Int):=by omega
        have hES2:¬ S<E:=by omega
        rw [if_pos hES] at r4
        have R:Aside (h+1≤65∧gk+h=66∧t+1≤h+1∧(pre ++ [(h,K)]) ++ JF n k (63 - (h+1)) (h+1)=JF n k (62 - t) (t+1)∧pre.length+1≤66∧wr.ownsRow w.heap.size 79 2 u5 pre.length (z05 pre)∧Below w.heap.size w wr∧pre.length≤1000∧wrap64 ((h:Int)+1)=((h+1:Nat):Int)):=⟨by omega,r2,by omega,by rw [← r4];simp,by have:=congrArg List.length r4;have:=z7F n k (62 - t) (t+1);simp at *;omega,r6,r7,by omega,z75 h (by omega)⟩
        clear r1 r2 r3 r4 r5 r6 r7 a1 a2 a3 hN hf hE hK hJ hS A hES hle
        go_wp2_with fail
        refine (ch _).mono ?_
        rintro e w' ⟨rfl,rfl⟩
        go_wp2_with fail
        refine (ce _).mono ?_
        rintro e w2 ⟨rfl,hb2⟩
        clear ce
        have hH:=(Has.new wr #[.int .u8 (h:Int),.int .u64 (K:Int)] 79).keep hb2
        have hz0:w2.cell? ⟨wr.heap.size,0,none⟩=some (.int .u8 (h:Int)):=hH.cell 0
        have hz1:w2.cell? ⟨wr.heap.size,1,none⟩=some (.int .u64 (K:Int)):=hH.cell 1
        have O2:Aside (Below w.heap.size w w2∧w2.ownsRow w.heap.size 79 2 u5 pre.length (z05 pre)):=by
          have r7:=R.out.2.2.2.2.2.2.1
          exact ⟨(r7.alloc r7.size _).trans (hb2.mono (Nat.le_trans r7.size (by simp))),z0q (R.out.2.2.2.2.2.1.alloc _) hb2⟩
        clear hb2 hH
        go_wp2_with (at_builtin;refine z2z _ rfl (.tmp 36) (.tmp 38) rfl w.heap.size u5 pre.length pre rfl (O2.out.2.alloc _) w2.heap.size 1 h K rfl ((Has.at _ _ _ (by simp)).cell 0) ((Has.at _ _ _ (by simp)).cell 1) R.out.2.2.2.2.2.2.2.1 (by have:=O2.out.1.size;simp;omega) ?_;intro g' cap w3 hown hgrow hg)
        go_roundg (gk - 1)
        case measure=>have:=R.out.1;have:=R.out.2.1;omega
        case rel=>
          obtain ⟨q1,q2,q3,q4,q5,q6,q7,q8,q9⟩:=R.out
          refine ⟨h+1,pre ++ [(h,K)],by first | rfl | rw [q9],q1,?_,q3,q4,by simpa using q5,by rw [List.length_append];exact hown,(O2.out.1.alloc O2.out.1.size _).grown hgrow (by have:=O2.out.1.size;simp;omega) (fun k e=>(O2.out.2.lt k e).1)⟩
          clear q9
          omega
      · have hES':(S:Int)<(E:Int):=by omega
        have hES2:S<E:=by omega
        rw [if_neg hES,List.append_nil] at r4
        have R:Aside (wr.ownsRow w.heap.size 79 2 u5 (JF n k (62 - t) (t+1)).length (z05 (JF n k (62 - t) (t+1)))∧Below w.heap.size w wr):=⟨by rw [← r4];exact r6,r7⟩
        clear r1 r2 r3 r4 r5 r6 r7 a1 a2 a3 hN hf hE hK hJ hS A hES hle
        go_wp2_with fail
        refine (ch _).mono ?_
        rintro e w' ⟨rfl,rfl⟩
        go_wp2_with fail
        refine (ce _).mono ?_
        rintro e w2 ⟨rfl,hb2⟩
        clear ce
        have O2:Aside (Below w.heap.size w w2∧w2.ownsRow w.heap.size 79 2 u5 (JF n k (62 - t) (t+1)).length (z05 (JF n k (62 - t) (t+1)))):=by
          have r7:=R.out.2
          exact ⟨(r7.alloc r7.size _).trans (hb2.mono (Nat.le_trans r7.size (by simp))),z0q (R.out.1.alloc _) hb2⟩
        clear hb2
        go_wp2
        go_ret
        exact ⟨_,rfl,O2.out.2,O2.out.1⟩
    · have hle':¬ (h:Int)≤62:=by omega
      rw [show 63 - h=0 by omega] at r4
      have r4':pre=JF n k (62 - t) (t+1):=by rw [← r4];simp [JF]
      have R:Aside (wr.ownsRow w.heap.size 79 2 u5 (JF n k (62 - t) (t+1)).length (z05 (JF n k (62 - t) (t+1)))∧Below w.heap.size w wr):=⟨by rw [← r4'];exact r6,r7⟩
      clear r1 r2 r3 r4 r5 r6 r7 a1 a2 a3 A hle r4'
      go_wp2_with fail
      refine (ch _).mono ?_
      rintro e w' ⟨rfl,rfl⟩
      go_wp2
      go_ret
      exact ⟨_,rfl,R.out.1,R.out.2⟩
end Go.Proofs.YthpdlnbbbcgemaaGreatDoor
