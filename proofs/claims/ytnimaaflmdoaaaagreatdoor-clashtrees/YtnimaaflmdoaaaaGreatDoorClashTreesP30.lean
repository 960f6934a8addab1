/- ClashTrees: part 30. -/
import Derived.Test.YtnimaaflmdoaaaaGreatDoorClashTreesP29
set_option maxHeartbeats 2000000
namespace Go.Proofs.YtnimaaflmdoaaaaGreatDoor.HX
open Go.RowKit Go.Maps
set_option maxRecDepth 100000
theorem z4x {w:World} {b o:Nat} {v:Value} (h:w.cell? ⟨b,o,none⟩=some v):(Instr.loadAt 81 (.pointer (some ⟨b,o,none⟩))).run Tryz.prog w=.ok v w:=by simp [go_sem,h]
theorem z4y {w:World} {g k:Nat} (hg:Has w g #[.int .u64 (k:Int)] 166):(Instr.loadAt 166 (.pointer (some ⟨g,0,none⟩))).run Tryz.prog w=.ok (KEY k) w:=by
 simp only [Instr.loadAt,Instr.sureAddr,Sem.run_bind,Sem.run_pure,Result.andThen];exact run_loadVar_row w g 166 166 #[.int .u64 (k:Int)] (0,0) _ hg Tryz.underlying166 rfl (by kernel_rfl)
def z1h:Array Oper:=#[⟨some 22,.move (.tmp 0),78,"store.go:200",#[],none⟩,⟨some 23,.nilCheck (.tmp 22),0,"store.go:200",#[⟨0,.data⟩],none⟩,⟨some 24,.fieldAddr 84 (.tmp 23) 3,0,"store.go:200",#[⟨1,.data⟩],none⟩,⟨some 25,.load 81 (.tmp 24),81,"store.go:200",#[⟨2,.data⟩],none⟩,⟨some 26,.load 166 (.tmp 6),166,"store.go:200",#[],none⟩,⟨some 27,.lookup 81 (.tmp 25) (.tmp 26) true,169,"store.go:200",#[⟨3,.data⟩,⟨4,.data⟩],none⟩,⟨some 21,.move (.tmp 27),169,"store.go:200",#[⟨5,.data⟩],none⟩,⟨some 28,.extract (.tmp 21) 0,168,"store.go:200",#[⟨6,.data⟩],none⟩,⟨some 29,.extract (.tmp 21) 1,4,"store.go:200",#[⟨6,.data⟩,{on:=9,ground:=.gcOnly Departure.lateStores}],none⟩,⟨some 7,.assign (.tmp 28),168,"store.go:200",#[⟨7,.data⟩,⟨0,.phase⟩,⟨1,.phase⟩,⟨2,.phase⟩,⟨3,.phase⟩,⟨4,.phase⟩,⟨5,.phase⟩,⟨6,.phase⟩,⟨7,.phase⟩,{on:=8,ground:=.textOnly Departure.lateStores}],none⟩,⟨some 8,.assign (.tmp 29),4,"store.go:200",#[⟨8,.data⟩,⟨9,.chain⟩,⟨0,.phase⟩,⟨1,.phase⟩,⟨2,.phase⟩,⟨3,.phase⟩,⟨4,.phase⟩,⟨5,.phase⟩,⟨6,.phase⟩,⟨7,.phase⟩,⟨8,.phase⟩,⟨9,.phase⟩],none⟩]
theorem zcg {Q:Exit->Act->World->Prop} (u1 u2 u3 u4 u5 u7 u8 u9 u10 u11 u12 u13 u14 u15 u16 u17 u18 u19 u20 u21 u22 u23 u24 u25 u26 u27 u28 u29 u30 u31 u32 u33 u34 u35 u36 u37 u38 u39 u40 u41 u42 u43 u44 u45 u46 u47 u48 u49 u50:Value) (W:World) (g b6 k:Nat) (mv v:Value) (b:Bool) (h3:W.cell? ⟨g,3,none⟩=some mv) (h6:Has W b6 #[.int .u64 (k:Int)] 166) (hlook:(Instr.lookup 81 mv (KEY k) true).run Tryz.prog W.drew=.ok (.tuple #[v,.bool b]) W.drew) (hQ:∀ c (a:Act) (t:Tmp) (v:Value) w,Q (.panic c) (a.put (some t) v) w->Q (.panic c) a w)
  (h:Q .normal {tmps:=#[.pointer (some ⟨g,0,none⟩),u1,u2,u3,u4,u5,.pointer (some ⟨b6,0,none⟩),v,.bool b,u9,u10,u11,u12,u13,u14,u15,u16,u17,u18,u19,u20,.tuple #[v,.bool b],.pointer (some ⟨g,0,none⟩),.pointer (some ⟨g,0,none⟩),.pointer (some ⟨g,3,none⟩),mv,KEY k,.tuple #[v,.bool b],v,.bool b,u30,u31,u32,u33,u34,u35,u36,u37,u38,u39,u40,u41,u42,u43,u44,u45,u46,u47,u48,u49,u50],defers:=[]} W.drew):(Code.region 4 z1h true).wp Tryz.prog Q {tmps:=#[.pointer (some ⟨g,0,none⟩),u1,u2,u3,u4,u5,.pointer (some ⟨b6,0,none⟩),u7,u8,u9,u10,u11,u12,u13,u14,u15,u16,u17,u18,u19,u20,u21,u22,u23,u24,u25,u26,u27,u28,u29,u30,u31,u32,u33,u34,u35,u36,u37,u38,u39,u40,u41,u42,u43,u44,u45,u46,u47,u48,u49,u50],defers:=[]} W:=by
 have d3:W.drew.cell? ⟨g,3,none⟩=some mv:=h3;have d6:Has W.drew b6 #[.int .u64 (k:Int)] 166:=h6
 have s3_4_5_6_7_8_9_10:wpAny Tryz.prog .any z1h Q 0 #[true,true,true,true,true,true,true,true,true,true,true] {tmps:=#[.pointer (some ⟨g,0,none⟩),u1,u2,u3,u4,u5,.pointer (some ⟨b6,0,none⟩),v,.bool b,u9,u10,u11,u12,u13,u14,u15,u16,u17,u18,u19,u20,.tuple #[v,.bool b],.pointer (some ⟨g,0,none⟩),.pointer (some ⟨g,0,none⟩),.pointer (some ⟨g,3,none⟩),mv,KEY k,.tuple #[v,.bool b],v,.bool b,u30,u31,u32,u33,u34,u35,u36,u37,u38,u39,u40,u41,u42,u43,u44,u45,u46,u47,u48,u49,u50],defers:=[]} W.drew:=by
  exact wpAny_done (by kernel_rfl) h _
 have s3_4_5_6_7_8_9:wpAny Tryz.prog .any z1h Q 1 #[true,true,true,true,true,true,true,true,true,true,false] {tmps:=#[.pointer (some ⟨g,0,none⟩),u1,u2,u3,u4,u5,.pointer (some ⟨b6,0,none⟩),v,u8,u9,u10,u11,u12,u13,u14,u15,u16,u17,u18,u19,u20,.tuple #[v,.bool b],.pointer (some ⟨g,0,none⟩),.pointer (some ⟨g,0,none⟩),.pointer (some ⟨g,3,none⟩),mv,KEY k,.tuple #[v,.bool b],v,.bool b,u30,u31,u32,u33,u34,u35,u36,u37,u38,u39,u40,u41,u42,u43,u44,u45,u46,u47,u48,u49,u50],defers:=[]} W.drew:=by
  refine wpAny_ready (rs:=[10]) (by kernel_rfl) (by simp) ?_;refine AllReady.cons (o:=⟨some 8,.assign (.tmp 29),4,"store.go:200",#[⟨8,.data⟩,⟨9,.chain⟩,⟨0,.phase⟩,⟨1,.phase⟩,⟨2,.phase⟩,⟨3,.phase⟩,⟨4,.phase⟩,⟨5,.phase⟩,⟨6,.phase⟩,⟨7,.phase⟩,⟨8,.phase⟩,⟨9,.phase⟩],none⟩) rfl (fun K hK=>z06 (v:=.bool b) rfl rfl (hK _ _ s3_4_5_6_7_8_9_10)) ?_;exact AllReady.nil
 have s3_4_5_6_7_9:wpAny Tryz.prog .any z1h Q 2 #[true,true,true,true,true,true,true,true,false,true,false] {tmps:=#[.pointer (some ⟨g,0,none⟩),u1,u2,u3,u4,u5,.pointer (some ⟨b6,0,none⟩),v,u8,u9,u10,u11,u12,u13,u14,u15,u16,u17,u18,u19,u20,.tuple #[v,.bool b],.pointer (some ⟨g,0,none⟩),.pointer (some ⟨g,0,none⟩),.pointer (some ⟨g,3,none⟩),mv,KEY k,.tuple #[v,.bool b],v,u29,u30,u31,u32,u33,u34,u35,u36,u37,u38,u39,u40,u41,u42,u43,u44,u45,u46,u47,u48,u49,u50],defers:=[]} W.drew:=by
  refine wpAny_ready (rs:=[8]) (by kernel_rfl) (by simp) ?_;refine AllReady.cons (o:=⟨some 29,.extract (.tmp 21) 1,4,"store.go:200",#[⟨6,.data⟩,{on:=9,ground:=.gcOnly Departure.lateStores}],none⟩) rfl (fun K hK=>z06 (v:=.bool b) rfl rfl (hK _ _ s3_4_5_6_7_8_9)) ?_;exact AllReady.nil
 have s3_4_5_6_7_8:wpAny Tryz.prog .any z1h Q 2 #[true,true,true,true,true,true,true,true,true,false,false] {tmps:=#[.pointer (some ⟨g,0,none⟩),u1,u2,u3,u4,u5,.pointer (some ⟨b6,0,none⟩),u7,u8,u9,u10,u11,u12,u13,u14,u15,u16,u17,u18,u19,u20,.tuple #[v,.bool b],.pointer (some ⟨g,0,none⟩),.pointer (some ⟨g,0,none⟩),.pointer (some ⟨g,3,none⟩),mv,KEY k,.tuple #[v,.bool b],v,.bool b,u30,u31,u32,u33,u34,u35,u36,u37,u38,u39,u40,u41,u42,u43,u44,u45,u46,u47,u48,u49,u50],defers:=[]} W.drew:=by
  refine wpAny_ready (rs:=[9]) (by kernel_rfl) (by simp) ?_;refine AllReady.cons (o:=⟨some 7,.assign (.tmp 28),168,"store.go:200",#[⟨7,.data⟩,⟨0,.phase⟩,⟨1,.phase⟩,⟨2,.phase⟩,⟨3,.phase⟩,⟨4,.phase⟩,⟨5,.phase⟩,⟨6,.phase⟩,⟨7,.phase⟩,{on:=8,ground:=.textOnly Departure.lateStores}],none⟩) rfl (fun K hK=>z06 (v:=v) rfl rfl (hK _ _ s3_4_5_6_7_8_9)) ?_;exact AllReady.nil
 have s3_4_5_6_8:wpAny Tryz.prog .any z1h Q 3 #[true,true,true,true,true,true,true,false,true,false,false] {tmps:=#[.pointer (some ⟨g,0,none⟩),u1,u2,u3,u4,u5,.pointer (some ⟨b6,0,none⟩),u7,u8,u9,u10,u11,u12,u13,u14,u15,u16,u17,u18,u19,u20,.tuple #[v,.bool b],.pointer (some ⟨g,0,none⟩),.pointer (some ⟨g,0,none⟩),.pointer (some ⟨g,3,none⟩),mv,KEY k,.tuple #[v,.bool b],u28,.bool b,u30,u31,u32,u33,u34,u35,u36,u37,u38,u39,u40,u41,u42,u43,u44,u45,u46,u47,u48,u49,u50],defers:=[]} W.drew:=by
  refine wpAny_ready (rs:=[7]) (by kernel_rfl) (by simp) ?_;refine AllReady.cons (o:=⟨some 28,.extract (.tmp 21) 0,168,"store.go:200",#[⟨6,.data⟩],none⟩) rfl (fun K hK=>z06 (v:=v) rfl rfl (hK _ _ s3_4_5_6_7_8)) ?_;exact AllReady.nil
 have s3_4_5_6_7:wpAny Tryz.prog .any z1h Q 3 #[true,true,true,true,true,true,true,true,false,false,false] {tmps:=#[.pointer (some ⟨g,0,none⟩),u1,u2,u3,u4,u5,.pointer (some ⟨b6,0,none⟩),u7,u8,u9,u10,u11,u12,u13,u14,u15,u16,u17,u18,u19,u20,.tuple #[v,.bool b],.pointer (some ⟨g,0,none⟩),.pointer (some ⟨g,0,none⟩),.pointer (some ⟨g,3,none⟩),mv,KEY k,.tuple #[v,.bool b],v,u29,u30,u31,u32,u33,u34,u35,u36,u37,u38,u39,u40,u41,u42,u43,u44,u45,u46,u47,u48,u49,u50],defers:=[]} W.drew:=by
  refine wpAny_ready (rs:=[8,9]) (by kernel_rfl) (by simp) ?_;refine AllReady.cons (o:=⟨some 29,.extract (.tmp 21) 1,4,"store.go:200",#[⟨6,.data⟩,{on:=9,ground:=.gcOnly Departure.lateStores}],none⟩) rfl (fun K hK=>z06 (v:=.bool b) rfl rfl (hK _ _ s3_4_5_6_7_8)) ?_;refine AllReady.cons (o:=⟨some 7,.assign (.tmp 28),168,"store.go:200",#[⟨7,.data⟩,⟨0,.phase⟩,⟨1,.phase⟩,⟨2,.phase⟩,⟨3,.phase⟩,⟨4,.phase⟩,⟨5,.phase⟩,⟨6,.phase⟩,⟨7,.phase⟩,{on:=8,ground:=.textOnly Departure.lateStores}],none⟩) rfl (fun K hK=>z06 (v:=v) rfl rfl (hK _ _ s3_4_5_6_7_9)) ?_;exact AllReady.nil
 have s3_4_5_6:wpAny Tryz.prog .any z1h Q 4 #[true,true,true,true,true,true,true,false,false,false,false] {tmps:=#[.pointer (some ⟨g,0,none⟩),u1,u2,u3,u4,u5,.pointer (some ⟨b6,0,none⟩),u7,u8,u9,u10,u11,u12,u13,u14,u15,u16,u17,u18,u19,u20,.tuple #[v,.bool b],.pointer (some ⟨g,0,none⟩),.pointer (some ⟨g,0,none⟩),.pointer (some ⟨g,3,none⟩),mv,KEY k,.tuple #[v,.bool b],u28,u29,u30,u31,u32,u33,u34,u35,u36,u37,u38,u39,u40,u41,u42,u43,u44,u45,u46,u47,u48,u49,u50],defers:=[]} W.drew:=by
  refine wpAny_ready (rs:=[7,8]) (by kernel_rfl) (by simp) ?_;refine AllReady.cons (o:=⟨some 28,.extract (.tmp 21) 0,168,"store.go:200",#[⟨6,.data⟩],none⟩) rfl (fun K hK=>z06 (v:=v) rfl rfl (hK _ _ s3_4_5_6_7)) ?_;refine AllReady.cons (o:=⟨some 29,.extract (.tmp 21) 1,4,"store.go:200",#[⟨6,.data⟩,{on:=9,ground:=.gcOnly Departure.lateStores}],none⟩) rfl (fun K hK=>z06 (v:=.bool b) rfl rfl (hK _ _ s3_4_5_6_8)) ?_;exact AllReady.nil
 have s3_4_5:wpAny Tryz.prog .any z1h Q 5 #[true,true,true,true,true,true,false,false,false,false,false] {tmps:=#[.pointer (some ⟨g,0,none⟩),u1,u2,u3,u4,u5,.pointer (some ⟨b6,0,none⟩),u7,u8,u9,u10,u11,u12,u13,u14,u15,u16,u17,u18,u19,u20,u21,.pointer (some ⟨g,0,none⟩),.pointer (some ⟨g,0,none⟩),.pointer (some ⟨g,3,none⟩),mv,KEY k,.tuple #[v,.bool b],u28,u29,u30,u31,u32,u33,u34,u35,u36,u37,u38,u39,u40,u41,u42,u43,u44,u45,u46,u47,u48,u49,u50],defers:=[]} W.drew:=by
  refine wpAny_ready (rs:=[6]) (by kernel_rfl) (by simp) ?_;refine AllReady.cons (o:=⟨some 21,.move (.tmp 27),169,"store.go:200",#[⟨5,.data⟩],none⟩) rfl (fun K hK=>z06 (v:=.tuple #[v,.bool b]) rfl rfl (hK _ _ s3_4_5_6)) ?_;exact AllReady.nil
 have s3_4:wpAny Tryz.prog .any z1h Q 6 #[true,true,true,true,true,false,false,false,false,false,false] {tmps:=#[.pointer (some ⟨g,0,none⟩),u1,u2,u3,u4,u5,.pointer (some ⟨b6,0,none⟩),u7,u8,u9,u10,u11,u12,u13,u14,u15,u16,u17,u18,u19,u20,u21,.pointer (some ⟨g,0,none⟩),.pointer (some ⟨g,0,none⟩),.pointer (some ⟨g,3,none⟩),mv,KEY k,u27,u28,u29,u30,u31,u32,u33,u34,u35,u36,u37,u38,u39,u40,u41,u42,u43,u44,u45,u46,u47,u48,u49,u50],defers:=[]} W.drew:=by
  refine wpAny_ready (rs:=[5]) (by kernel_rfl) (by simp) ?_;refine AllReady.cons (o:=⟨some 27,.lookup 81 (.tmp 25) (.tmp 26) true,169,"store.go:200",#[⟨3,.data⟩,⟨4,.data⟩],none⟩) rfl (fun K hK=>z06 (v:=.tuple #[v,.bool b]) rfl (z08 (hlook)) (hK _ _ s3_4_5)) ?_;exact AllReady.nil
 have s4:wpAny Tryz.prog .any z1h Q 7 #[true,true,true,false,true,false,false,false,false,false,false] {tmps:=#[.pointer (some ⟨g,0,none⟩),u1,u2,u3,u4,u5,.pointer (some ⟨b6,0,none⟩),u7,u8,u9,u10,u11,u12,u13,u14,u15,u16,u17,u18,u19,u20,u21,.pointer (some ⟨g,0,none⟩),.pointer (some ⟨g,0,none⟩),.pointer (some ⟨g,3,none⟩),u25,KEY k,u27,u28,u29,u30,u31,u32,u33,u34,u35,u36,u37,u38,u39,u40,u41,u42,u43,u44,u45,u46,u47,u48,u49,u50],defers:=[]} W.drew:=by
  refine wpAny_ready (rs:=[3]) (by kernel_rfl) (by simp) ?_;refine AllReady.cons (o:=⟨some 25,.load 81 (.tmp 24),81,"store.go:200",#[⟨2,.data⟩],none⟩) rfl (fun K hK=>z06 (v:=mv) rfl (z08 (z4x d3)) (hK _ _ s3_4)) ?_;exact AllReady.nil
 have s3:wpAny Tryz.prog .any z1h Q 7 #[true,true,true,true,false,false,false,false,false,false,false] {tmps:=#[.pointer (some ⟨g,0,none⟩),u1,u2,u3,u4,u5,.pointer (some ⟨b6,0,none⟩),u7,u8,u9,u10,u11,u12,u13,u14,u15,u16,u17,u18,u19,u20,u21,.pointer (some ⟨g,0,none⟩),.pointer (some ⟨g,0,none⟩),.pointer (some ⟨g,3,none⟩),mv,u26,u27,u28,u29,u30,u31,u32,u33,u34,u35,u36,u37,u38,u39,u40,u41,u42,u43,u44,u45,u46,u47,u48,u49,u50],defers:=[]} W.drew:=by
  refine wpAny_ready (rs:=[4]) (by kernel_rfl) (by simp) ?_;refine AllReady.cons (o:=⟨some 26,.load 166 (.tmp 6),166,"store.go:200",#[],none⟩) rfl (fun K hK=>z06 (v:=KEY k) rfl (z08 (z4y d6)) (hK _ _ s3_4)) ?_;exact AllReady.nil
 have s:wpAny Tryz.prog .any z1h Q 8 #[true,true,true,false,false,false,false,false,false,false,false] {tmps:=#[.pointer (some ⟨g,0,none⟩),u1,u2,u3,u4,u5,.pointer (some ⟨b6,0,none⟩),u7,u8,u9,u10,u11,u12,u13,u14,u15,u16,u17,u18,u19,u20,u21,.pointer (some ⟨g,0,none⟩),.pointer (some ⟨g,0,none⟩),.pointer (some ⟨g,3,none⟩),u25,u26,u27,u28,u29,u30,u31,u32,u33,u34,u35,u36,u37,u38,u39,u40,u41,u42,u43,u44,u45,u46,u47,u48,u49,u50],defers:=[]} W.drew:=by
  refine wpAny_ready (rs:=[3,4]) (by kernel_rfl) (by simp) ?_;refine AllReady.cons (o:=⟨some 25,.load 81 (.tmp 24),81,"store.go:200",#[⟨2,.data⟩],none⟩) rfl (fun K hK=>z06 (v:=mv) rfl (z08 (z4x d3)) (hK _ _ s3)) ?_;refine AllReady.cons (o:=⟨some 26,.load 166 (.tmp 6),166,"store.go:200",#[],none⟩) rfl (fun K hK=>z06 (v:=KEY k) rfl (z08 (z4y d6)) (hK _ _ s4)) ?_;exact AllReady.nil
 have t2:wpAny Tryz.prog .any z1h Q 9 #[true,true,false,false,false,false,false,false,false,false,false] {tmps:=#[.pointer (some ⟨g,0,none⟩),u1,u2,u3,u4,u5,.pointer (some ⟨b6,0,none⟩),u7,u8,u9,u10,u11,u12,u13,u14,u15,u16,u17,u18,u19,u20,u21,.pointer (some ⟨g,0,none⟩),.pointer (some ⟨g,0,none⟩),u24,u25,u26,u27,u28,u29,u30,u31,u32,u33,u34,u35,u36,u37,u38,u39,u40,u41,u42,u43,u44,u45,u46,u47,u48,u49,u50],defers:=[]} W.drew:=
  wpAny_take (i:=2) (oi:=⟨some 24,.fieldAddr 84 (.tmp 23) 3,0,"store.go:200",#[⟨1,.data⟩],none⟩) (v:=.pointer (some ⟨g,3,none⟩)) rfl (by kernel_rfl) (by kernel_rfl) (by kernel_rfl) (fun _ _ _ h=>hQ _ _ _ _ _ h) (Or.inl ⟨by rfl,fun W=>by go_simp⟩) s
 have t1:wpAny Tryz.prog .any z1h Q 10 #[true,false,false,false,false,false,false,false,false,false,false] {tmps:=#[.pointer (some ⟨g,0,none⟩),u1,u2,u3,u4,u5,.pointer (some ⟨b6,0,none⟩),u7,u8,u9,u10,u11,u12,u13,u14,u15,u16,u17,u18,u19,u20,u21,.pointer (some ⟨g,0,none⟩),u23,u24,u25,u26,u27,u28,u29,u30,u31,u32,u33,u34,u35,u36,u37,u38,u39,u40,u41,u42,u43,u44,u45,u46,u47,u48,u49,u50],defers:=[]} W.drew:=
  wpAny_take (i:=1) (oi:=⟨some 23,.nilCheck (.tmp 22),0,"store.go:200",#[⟨0,.data⟩],none⟩) (v:=.pointer (some ⟨g,0,none⟩)) rfl (by kernel_rfl) (by kernel_rfl) (by kernel_rfl) (fun _ _ _ h=>hQ _ _ _ _ _ h) (Or.inl ⟨by rfl,fun W=>by go_simp⟩) t2
 have t0:wpAny Tryz.prog .any z1h Q 11 #[false,false,false,false,false,false,false,false,false,false,false] {tmps:=#[.pointer (some ⟨g,0,none⟩),u1,u2,u3,u4,u5,.pointer (some ⟨b6,0,none⟩),u7,u8,u9,u10,u11,u12,u13,u14,u15,u16,u17,u18,u19,u20,u21,u22,u23,u24,u25,u26,u27,u28,u29,u30,u31,u32,u33,u34,u35,u36,u37,u38,u39,u40,u41,u42,u43,u44,u45,u46,u47,u48,u49,u50],defers:=[]} W.drew:=
  wpAny_take (i:=0) (oi:=⟨some 22,.move (.tmp 0),78,"store.go:200",#[],none⟩) (v:=.pointer (some ⟨g,0,none⟩)) rfl (by kernel_rfl) (by kernel_rfl) (by kernel_rfl) (fun _ _ _ h=>hQ _ _ _ _ _ h) (Or.inl ⟨by rfl,fun W=>by go_simp⟩) t1
 refine wp_region_any (by kernel_rfl) ?_;exact t0
def z29:Array Oper:=#[⟨some 34,.move (.tmp 0),78,"store.go:203",#[],none⟩,⟨some 35,.nilCheck (.tmp 34),0,"store.go:203",#[⟨0,.data⟩],none⟩,⟨some 36,.fieldAddr 84 (.tmp 35) 3,0,"store.go:203",#[⟨1,.data⟩],none⟩,⟨some 37,.load 81 (.tmp 36),81,"store.go:203",#[⟨2,.data⟩],none⟩,⟨some 38,.load 166 (.tmp 6),166,"store.go:203",#[],none⟩,⟨some 39,.move (.tmp 7),168,"store.go:203",#[],none⟩,⟨none,.mapUpdate 81 (.tmp 37) (.tmp 38) (.tmp 39),0,"store.go:203",#[⟨3,.data⟩,⟨4,.data⟩,⟨5,.data⟩,⟨0,.phase⟩,⟨1,.phase⟩,⟨2,.phase⟩,⟨3,.phase⟩,⟨4,.phase⟩,⟨5,.phase⟩],none⟩]
theorem zfQ {Q:Exit->Act->World->Prop} (u1 u2 u3 u4 u5 u8 u9 u10 u11 u12 u13 u14 u15 u16 u17 u18 u19 u20 u21 u22 u23 u24 u25 u26 u27 u28 u29 u30 u31 u32 u33 u34 u35 u36 u37 u38 u39 u40 u41 u42 u43 u44 u45 u46 u47 u48 u49 u50:Value) (W:World) (g b6 k:Nat) (mv v7:Value) (w2:World) (h3:W.cell? ⟨g,3,none⟩=some mv) (h6:Has W b6 #[.int .u64 (k:Int)] 166) (hupd:(Instr.mapUpdate 81 mv (KEY k) v7).run Tryz.prog W.drew=.ok () w2) (hQ:∀ c (a:Act) (t:Tmp) (v:Value) w,Q (.panic c) (a.put (some t) v) w->Q (.panic c) a w)
  (h:Q .normal {tmps:=#[.pointer (some ⟨g,0,none⟩),u1,u2,u3,u4,u5,.pointer (some ⟨b6,0,none⟩),v7,u8,u9,u10,u11,u12,u13,u14,u15,u16,u17,u18,u19,u20,u21,u22,u23,u24,u25,u26,u27,u28,u29,u30,u31,u32,u33,.pointer (some ⟨g,0,none⟩),.pointer (some ⟨g,0,none⟩),.pointer (some ⟨g,3,none⟩),mv,KEY k,v7,u40,u41,u42,u43,u44,u45,u46,u47,u48,u49,u50],defers:=[]} (w2)):(Code.region 7 z29 true).wp Tryz.prog Q {tmps:=#[.pointer (some ⟨g,0,none⟩),u1,u2,u3,u4,u5,.pointer (some ⟨b6,0,none⟩),v7,u8,u9,u10,u11,u12,u13,u14,u15,u16,u17,u18,u19,u20,u21,u22,u23,u24,u25,u26,u27,u28,u29,u30,u31,u32,u33,u34,u35,u36,u37,u38,u39,u40,u41,u42,u43,u44,u45,u46,u47,u48,u49,u50],defers:=[]} W:=by
 have d3:W.drew.cell? ⟨g,3,none⟩=some mv:=h3;have d6:Has W.drew b6 #[.int .u64 (k:Int)] 166:=h6
 have s3_4_6:wpAny Tryz.prog .any z29 Q 0 #[true,true,true,true,true,true,true] {tmps:=#[.pointer (some ⟨g,0,none⟩),u1,u2,u3,u4,u5,.pointer (some ⟨b6,0,none⟩),v7,u8,u9,u10,u11,u12,u13,u14,u15,u16,u17,u18,u19,u20,u21,u22,u23,u24,u25,u26,u27,u28,u29,u30,u31,u32,u33,.pointer (some ⟨g,0,none⟩),.pointer (some ⟨g,0,none⟩),.pointer (some ⟨g,3,none⟩),mv,KEY k,v7,u40,u41,u42,u43,u44,u45,u46,u47,u48,u49,u50],defers:=[]} (w2):=by
  exact wpAny_done (by kernel_rfl) h _
 have s3_4:wpAny Tryz.prog .any z29 Q 1 #[true,true,true,true,true,true,false] {tmps:=#[.pointer (some ⟨g,0,none⟩),u1,u2,u3,u4,u5,.pointer (some ⟨b6,0,none⟩),v7,u8,u9,u10,u11,u12,u13,u14,u15,u16,u17,u18,u19,u20,u21,u22,u23,u24,u25,u26,u27,u28,u29,u30,u31,u32,u33,.pointer (some ⟨g,0,none⟩),.pointer (some ⟨g,0,none⟩),.pointer (some ⟨g,3,none⟩),mv,KEY k,v7,u40,u41,u42,u43,u44,u45,u46,u47,u48,u49,u50],defers:=[]} W.drew:=by
  refine wpAny_ready (rs:=[6]) (by kernel_rfl) (by simp) ?_;refine AllReady.cons (o:=⟨none,.mapUpdate 81 (.tmp 37) (.tmp 38) (.tmp 39),0,"store.go:203",#[⟨3,.data⟩,⟨4,.data⟩,⟨5,.data⟩,⟨0,.phase⟩,⟨1,.phase⟩,⟨2,.phase⟩,⟨3,.phase⟩,⟨4,.phase⟩,⟨5,.phase⟩],none⟩) rfl (fun K hK=>z0A rfl (z1k (hupd)) (hK _ _ s3_4_6)) ?_;exact AllReady.nil
 have s4:wpAny Tryz.prog .any z29 Q 2 #[true,true,true,false,true,true,false] {tmps:=#[.pointer (some ⟨g,0,none⟩),u1,u2,u3,u4,u5,.pointer (some ⟨b6,0,none⟩),v7,u8,u9,u10,u11,u12,u13,u14,u15,u16,u17,u18,u19,u20,u21,u22,u23,u24,u25,u26,u27,u28,u29,u30,u31,u32,u33,.pointer (some ⟨g,0,none⟩),.pointer (some ⟨g,0,none⟩),.pointer (some ⟨g,3,none⟩),u37,KEY k,v7,u40,u41,u42,u43,u44,u45,u46,u47,u48,u49,u50],defers:=[]} W.drew:=by
  refine wpAny_ready (rs:=[3]) (by kernel_rfl) (by simp) ?_;refine AllReady.cons (o:=⟨some 37,.load 81 (.tmp 36),81,"store.go:203",#[⟨2,.data⟩],none⟩) rfl (fun K hK=>z06 (v:=mv) rfl (z08 (z4x d3)) (hK _ _ s3_4)) ?_;exact AllReady.nil
 have s3:wpAny Tryz.prog .any z29 Q 2 #[true,true,true,true,false,true,false] {tmps:=#[.pointer (some ⟨g,0,none⟩),u1,u2,u3,u4,u5,.pointer (some ⟨b6,0,none⟩),v7,u8,u9,u10,u11,u12,u13,u14,u15,u16,u17,u18,u19,u20,u21,u22,u23,u24,u25,u26,u27,u28,u29,u30,u31,u32,u33,.pointer (some ⟨g,0,none⟩),.pointer (some ⟨g,0,none⟩),.pointer (some ⟨g,3,none⟩),mv,u38,v7,u40,u41,u42,u43,u44,u45,u46,u47,u48,u49,u50],defers:=[]} W.drew:=by
  refine wpAny_ready (rs:=[4]) (by kernel_rfl) (by simp) ?_;refine AllReady.cons (o:=⟨some 38,.load 166 (.tmp 6),166,"store.go:203",#[],none⟩) rfl (fun K hK=>z06 (v:=KEY k) rfl (z08 (z4y d6)) (hK _ _ s3_4)) ?_;exact AllReady.nil
 have s:wpAny Tryz.prog .any z29 Q 3 #[true,true,true,false,false,true,false] {tmps:=#[.pointer (some ⟨g,0,none⟩),u1,u2,u3,u4,u5,.pointer (some ⟨b6,0,none⟩),v7,u8,u9,u10,u11,u12,u13,u14,u15,u16,u17,u18,u19,u20,u21,u22,u23,u24,u25,u26,u27,u28,u29,u30,u31,u32,u33,.pointer (some ⟨g,0,none⟩),.pointer (some ⟨g,0,none⟩),.pointer (some ⟨g,3,none⟩),u37,u38,v7,u40,u41,u42,u43,u44,u45,u46,u47,u48,u49,u50],defers:=[]} W.drew:=by
  refine wpAny_ready (rs:=[3,4]) (by kernel_rfl) (by simp) ?_;refine AllReady.cons (o:=⟨some 37,.load 81 (.tmp 36),81,"store.go:203",#[⟨2,.data⟩],none⟩) rfl (fun K hK=>z06 (v:=mv) rfl (z08 (z4x d3)) (hK _ _ s3)) ?_;refine AllReady.cons (o:=⟨some 38,.load 166 (.tmp 6),166,"store.go:203",#[],none⟩) rfl (fun K hK=>z06 (v:=KEY k) rfl (z08 (z4y d6)) (hK _ _ s4)) ?_;exact AllReady.nil
 have t5:wpAny Tryz.prog .any z29 Q 4 #[true,true,true,false,false,false,false] {tmps:=#[.pointer (some ⟨g,0,none⟩),u1,u2,u3,u4,u5,.pointer (some ⟨b6,0,none⟩),v7,u8,u9,u10,u11,u12,u13,u14,u15,u16,u17,u18,u19,u20,u21,u22,u23,u24,u25,u26,u27,u28,u29,u30,u31,u32,u33,.pointer (some ⟨g,0,none⟩),.pointer (some ⟨g,0,none⟩),.pointer (some ⟨g,3,none⟩),u37,u38,u39,u40,u41,u42,u43,u44,u45,u46,u47,u48,u49,u50],defers:=[]} W.drew:=
  wpAny_take (i:=5) (oi:=⟨some 39,.move (.tmp 7),168,"store.go:203",#[],none⟩) (v:=v7) rfl (by kernel_rfl) (by kernel_rfl) (by kernel_rfl) (fun _ _ _ h=>hQ _ _ _ _ _ h) (Or.inl ⟨by rfl,fun W=>by go_simp⟩) s
 have t2:wpAny Tryz.prog .any z29 Q 5 #[true,true,false,false,false,false,false] {tmps:=#[.pointer (some ⟨g,0,none⟩),u1,u2,u3,u4,u5,.pointer (some ⟨b6,0,none⟩),v7,u8,u9,u10,u11,u12,u13,u14,u15,u16,u17,u18,u19,u20,u21,u22,u23,u24,u25,u26,u27,u28,u29,u30,u31,u32,u33,.pointer (some ⟨g,0,none⟩),.pointer (some ⟨g,0,none⟩),u36,u37,u38,u39,u40,u41,u42,u43,u44,u45,u46,u47,u48,u49,u50],defers:=[]} W.drew:=
  wpAny_take (i:=2) (oi:=⟨some 36,.fieldAddr 84 (.tmp 35) 3,0,"store.go:203",#[⟨1,.data⟩],none⟩) (v:=.pointer (some ⟨g,3,none⟩)) rfl (by kernel_rfl) (by kernel_rfl) (by kernel_rfl) (fun _ _ _ h=>hQ _ _ _ _ _ h) (Or.inl ⟨by rfl,fun W=>by go_simp⟩) t5
 have t1:wpAny Tryz.prog .any z29 Q 6 #[true,false,false,false,false,false,false] {tmps:=#[.pointer (some ⟨g,0,none⟩),u1,u2,u3,u4,u5,.pointer (some ⟨b6,0,none⟩),v7,u8,u9,u10,u11,u12,u13,u14,u15,u16,u17,u18,u19,u20,u21,u22,u23,u24,u25,u26,u27,u28,u29,u30,u31,u32,u33,.pointer (some ⟨g,0,none⟩),u35,u36,u37,u38,u39,u40,u41,u42,u43,u44,u45,u46,u47,u48,u49,u50],defers:=[]} W.drew:=
  wpAny_take (i:=1) (oi:=⟨some 35,.nilCheck (.tmp 34),0,"store.go:203",#[⟨0,.data⟩],none⟩) (v:=.pointer (some ⟨g,0,none⟩)) rfl (by kernel_rfl) (by kernel_rfl) (by kernel_rfl) (fun _ _ _ h=>hQ _ _ _ _ _ h) (Or.inl ⟨by rfl,fun W=>by go_simp⟩) t2
 have t0:wpAny Tryz.prog .any z29 Q 7 #[false,false,false,false,false,false,false] {tmps:=#[.pointer (some ⟨g,0,none⟩),u1,u2,u3,u4,u5,.pointer (some ⟨b6,0,none⟩),v7,u8,u9,u10,u11,u12,u13,u14,u15,u16,u17,u18,u19,u20,u21,u22,u23,u24,u25,u26,u27,u28,u29,u30,u31,u32,u33,u34,u35,u36,u37,u38,u39,u40,u41,u42,u43,u44,u45,u46,u47,u48,u49,u50],defers:=[]} W.drew:=
  wpAny_take (i:=0) (oi:=⟨some 34,.move (.tmp 0),78,"store.go:203",#[],none⟩) (v:=.pointer (some ⟨g,0,none⟩)) rfl (by kernel_rfl) (by kernel_rfl) (by kernel_rfl) (fun _ _ _ h=>hQ _ _ _ _ _ h) (Or.inl ⟨by rfl,fun W=>by go_simp⟩) t1
 refine wp_region_any (by kernel_rfl) ?_;exact t0
theorem z4z {w:World} {g i:Nat} {cs:Array Value} {t:TypeId} {fr:Nat × Nat} (h:w.heap[g]?=some (.cells cs t fr)) (v:Value):∃ cs',(w.setCell ⟨g,i,none⟩ v).heap[g]?=some (.cells cs' t fr):=by
 refine ⟨cs.setIfInBounds i v,?_⟩;simp [World.setCell,Array.getElem?_modify,h]
def FOOT (w:World) (g:Nat) (C:z04) (b:Nat):Prop:=w.cell? ⟨g,3,none⟩=some (.map (some b))\/∃ k gc rs,C k=some (gc,rs)/\(b=gc\/(∃ v,w.cell? ⟨gc,0,none⟩=some v/\v.ownBlock=some b)\/∃ r∈rs,r.gh=b)
def TOP (C:z04) (p:Nat):Prop:=∀ k gc rs,C k=some (gc,rs)->∀ r∈rs,∀ j,j<64->r.live.testBit j=true->r.num*64+j<p
theorem CHUNK.kinds {w:World} {B g:Nat} {rs:List ROW} (h:CHUNK w B g rs):(∃ c,w.heap[g]?=some (.cells c 172 (0,0)))/\(∀ v b,w.cell? ⟨g,0,none⟩=some v->v.ownBlock=some b->∃ c,w.heap[b]?=some (.cells c 204 (0,0)))/\∀ r∈rs,∃ c,w.heap[r.gh]?=some (.cells c 23 (0,0)):=by
 obtain ⟨v,hv,ho⟩:=h.box;refine ⟨⟨_,hv⟩,fun u b hu hb=>?_,fun r hr=>?_⟩
 ·rw [hv.cell 0] at hu
  cases Option.some.inj hu;obtain ⟨c,hc,_⟩:=z18 ho hb;exact ⟨c,hc⟩
 ·obtain ⟨c,hc,_⟩:=z18 (h.row r hr).2.2.2.2 (b:=r.gh) rfl
  exact ⟨c,hc⟩
theorem CHUNK.at {w w':World} {B g:Nat} {rs:List ROW} (h:CHUNK w B g rs) (e1:w'.heap[g]?=w.heap[g]?) (e2:∀ v b,w.cell? ⟨g,0,none⟩=some v->v.ownBlock=some b->w'.heap[b]?=w.heap[b]?) (e3:∀ r∈rs,w'.heap[r.gh]?=w.heap[r.gh]?):CHUNK w' B g rs:=by
 obtain ⟨v,hv,ho⟩:=h.box
 exact ⟨⟨v,e1.trans hv,z5R ho fun b hb=>e2 v b (hv.cell 0) hb⟩,h.far,h.few,h.rise,fun r hr=>by
  obtain ⟨a,b,c,d,e⟩:=h.row r hr;exact ⟨a,b,c,d,z5R e fun b hb=>by cases hb;exact e3 r hr⟩,h.apart,h.lives⟩
theorem TOP.next {w:World} {B g p:Nat} {rs:List ROW} (hC:CHUNK w B g rs) (h:∀ r∈rs,∀ j,j<64->r.live.testBit j=true->r.num*64+j<p):NEXT rs p:=fun r hr=>by
 obtain ⟨j,hj,hb⟩:=hC.lives r hr;have h1:=h r hr j hj hb;by_cases e:r.num<p / 64
 ·exact .inl e
 ·refine .inr ⟨by omega,fun i hi hb'=>?_⟩
  have:=h r hr i hi hb';omega
def WITH (C:z04) (K gc:Nat) (rs:List ROW):z04:=fun j=>if j=K then some (gc,rs) else C j
theorem z0z {C:z04} {K gc:Nat} {rs:List ROW}:WITH C K gc rs K=some (gc,rs):=if_pos rfl
theorem z0J {C:z04} {K gc j:Nat} {rs:List ROW} (h:j≠K):WITH C K gc rs j=C j:=if_neg h
theorem z0h {w:World} {b b':Nat} {c c':Array Value} {t t':TypeId} {fr fr':Nat × Nat} (h:w.heap[b]?=some (.cells c t fr)) (h':w.heap[b']?=some (.cells c' t' fr')) (ht:t≠t'):b≠b':=fun e=>by
 rw [e,h'] at h;cases h;exact ht rfl
def FULL (C:z04):Prop:=∀ k gc rs,C k=some (gc,rs)->rs≠[]
def FULLB (C:z04) (K:Nat):Prop:=∀ k gc rs,k≠K->C k=some (gc,rs)->rs≠[]
theorem FULL.but {C:z04} (h:FULL C) (K:Nat):FULLB C K:=fun k gc rs _ e=>h k gc rs e
theorem FULLB.with {C:z04} {K gc:Nat} {rs:List ROW} (h:FULLB C K):FULLB (WITH C K gc rs) K:=fun k gc rs hk e=>h k gc rs hk (by rw [z0J hk] at e;exact e)
theorem FULLB.full {C:z04} {K gc:Nat} {rs:List ROW} (h:FULLB C K) (hr:rs≠[]):FULL (WITH C K gc rs):=fun k gc' rs' e=>by
 by_cases hk:k=K
 ·subst hk
  rw [z0z] at e;cases e;exact hr
 ·rw [z0J hk] at e
  exact h k gc' rs' hk e
theorem STORE.put {W W':World} {B g log len alive N K gc p:Nat} {C:z04} {rs:List ROW} {h:Nat->Nat} (hS:STORE W B g log len alive N C) (hK:C K=some (gc,rs)) (hp:p / 2 ^ log=K) (hpl:p<len) (hP:PUTS W B gc p rs h W'):
  ∃ C',STORE (W'.setCell ⟨g,2,none⟩ (.int .u64 ((alive+1:Nat):Int))) B g log len (alive+1) N C'/\(∀ p',AT C' log p'=if p'=p then some h else AT C log p')/\(TOP C p->TOP C' (p+1))/\
   (∀ b,FOOT (W'.setCell ⟨g,2,none⟩ (.int .u64 ((alive+1:Nat):Int))) g C' b->FOOT W g C b\/W.heap.size<=b)/\(∀ b,b<W.heap.size->b≠g->¬ FOOT W g C b->(W'.setCell ⟨g,2,none⟩ (.int .u64 ((alive+1:Nat):Int))).heap[b]?=W.heap[b]?)/\
   (∀ i,i≠2->(W'.setCell ⟨g,2,none⟩ (.int .u64 ((alive+1:Nat):Int))).cell? ⟨g,i,none⟩=W.cell? ⟨g,i,none⟩)/\W.heap.size<=(W'.setCell ⟨g,2,none⟩ (.int .u64 ((alive+1:Nat):Int))).heap.size/\(FULLB C K->FULL C'):=by
 obtain ⟨rs',q1,q2,q3,q4,q5,q6,q7,q8⟩:=hP;obtain ⟨cs,t,fr,k1,k2,k3,k4⟩:=hS.kind;obtain ⟨a1,a2,a3⟩:=hS.chunk K gc rs hK;obtain ⟨⟨_,y1⟩,y2,y3⟩:=a2.kinds;have hgl:=hS.lt;have hg:W'.heap[g]?=W.heap[g]?:=q8 g hgl (z0h k1 y1 k2) (fun v hv e=>by obtain ⟨_,hc⟩:=y2 v g hv e;exact z0h k1 hc k3 rfl) (fun r hr e=>by obtain ⟨_,hc⟩:=y3 r hr;rw [e] at hc;exact z0h k1 hc k4 rfl);have hcell:∀ i,W'.cell? ⟨g,i,none⟩=W.cell? ⟨g,i,none⟩:=fun i=>World.cell?_of_block (w:=W) (by exact hg);obtain ⟨w5,hw5⟩:∃ w5,W'.setCell ⟨g,2,none⟩ (.int .u64 ((alive+1:Nat):Int))=w5:=⟨_,rfl⟩
 rw [hw5];have hset:∀ b,b≠g->w5.heap[b]?=W'.heap[b]?:=fun b hb=>by rw [<-hw5];exact Below.heap_setCell _ _ _ b (by exact hb)
 have hc5:∀ i,i≠2->w5.cell? ⟨g,i,none⟩=W.cell? ⟨g,i,none⟩:=fun i hi=>by rw [<-hw5,z1W (fun e=>hi e.symm)];exact hcell i
 have hs5:w5.heap.size=W'.heap.size:=by rw [<-hw5];simp
 obtain ⟨mv,m1,m2,m3⟩:=hS.map;have keep:∀ b c t' fr',W.heap[b]?=some (.cells c t' fr')->b≠g->b≠gc->(∀ v,W.cell? ⟨gc,0,none⟩=some v->v.ownBlock≠some b)->(∀ r∈rs,r.gh≠b)->w5.heap[b]?=W.heap[b]?:=fun b c t' fr' hb e1 e2 e3 e4=>(hset b e1).trans (q8 b (Array.getElem?_eq_some_iff.1 hb).1 e2 e3 e4)
 have hother:∀ k gc' rk,k≠K->C k=some (gc',rk)->w5.heap[gc']?=W.heap[gc']?/\(∀ v b,W.cell? ⟨gc',0,none⟩=some v->v.ownBlock=some b->w5.heap[b]?=W.heap[b]?)/\∀ r∈rk,w5.heap[r.gh]?=W.heap[r.gh]?:=fun k gc' rk hk e=>by
  obtain ⟨b1,b2,b3⟩:=hS.chunk k gc' rk e;obtain ⟨⟨_,z1⟩,z2,z3⟩:=b2.kinds;obtain ⟨o1,o2,o3⟩:=hS.one k K gc' gc rk rs hk e hK;refine ⟨keep gc' _ _ _ z1 (fun e=>z0h k1 z1 k2 e.symm) o1 (fun v hv e=>by obtain ⟨_,hc⟩:=y2 v _ hv e;exact z0h z1 hc (by decide) rfl) (fun r hr e=>by obtain ⟨_,hc⟩:=y3 r hr;rw [e] at hc;exact z0h z1 hc (by decide) rfl),fun v b hv hb=>?_,fun r hr=>?_⟩
  ·obtain ⟨_,hcb⟩:=z2 v b hv hb
   refine keep b _ _ _ hcb (fun e=>z0h k1 hcb k3 e.symm) (z0h hcb y1 (by decide)) (fun v' hv' e=>?_) (fun r hr e=>by obtain ⟨_,hc⟩:=y3 r hr;rw [e] at hc;exact z0h hcb hc (by decide) rfl);rcases o3 v v' hv hv' with h | h
   ·rw [hb] at h;cases h
   ·exact h (hb.trans e.symm)
  ·obtain ⟨_,hcr⟩:=z3 r hr
   exact keep r.gh _ _ _ hcr (fun e=>z0h k1 hcr k4 e.symm) (z0h hcr y1 (by decide)) (fun v hv e=>by obtain ⟨_,hc⟩:=y2 v _ hv e;exact z0h hcr hc (by decide) rfl) (fun r' hr' e=>o2 r hr r' hr' e.symm)
 have hocell:∀ k gc' rk,k≠K->C k=some (gc',rk)->∀ i,w5.cell? ⟨gc',i,none⟩=W.cell? ⟨gc',i,none⟩:=fun k gc' rk hk e i=>World.cell?_of_block (w:=W) (by exact (hother k gc' rk hk e).1);obtain ⟨⟨_,x1⟩,x2,x3⟩:=q1.kinds;have k1':W'.heap[g]?=some (.cells cs t fr):=hg.trans k1;have hgcg:gc≠g:=fun e=>z0h k1' x1 k2 e.symm;have hgcell:w5.cell? ⟨gc,0,none⟩=W'.cell? ⟨gc,0,none⟩:=World.cell?_of_block (w:=W') (by exact hset gc hgcg);have q1':CHUNK w5 B gc rs':=q1.at (hset gc hgcg) (fun v b hv hb=>by obtain ⟨_,hc⟩:=x2 v b hv hb;exact hset b (fun e=>z0h k1' hc k3 e.symm)) (fun r hr=>by obtain ⟨_,hc⟩:=x3 r hr;exact hset r.gh (fun e=>z0h k1' hc k4 e.symm))
 obtain ⟨v0,hv0,ho0⟩:=a2.box;have hv0c:W.cell? ⟨gc,0,none⟩=some v0:=hv0.cell 0
 have hone:∀ k' gc' rk,k'≠K->C k'=some (gc',rk)->gc≠gc'/\(∀ r∈rs',∀ r'∈rk,r.gh≠r'.gh)/\∀ v v',w5.cell? ⟨gc,0,none⟩=some v->w5.cell? ⟨gc',0,none⟩=some v'->v.ownBlock=none\/v.ownBlock≠v'.ownBlock:=fun k' gc' rk hk e=>by
  obtain ⟨o1,o2,o3⟩:=hS.one K k' gc gc' rs rk (fun h=>hk h.symm) hK e;obtain ⟨_,z2,z3⟩:=(hS.chunk k' gc' rk e).2.1.kinds;refine ⟨o1,fun r hr r' hr'=>?_,fun v v' hv hv'=>?_⟩
  ·rcases q4 r hr with ⟨r0,h1,h2⟩ | h1
   ·rw [<-h2];exact o2 r0 h1 r' hr'
   ·obtain ⟨_,hc⟩:=z3 r' hr'
    have:=(Array.getElem?_eq_some_iff.1 hc).1;omega
  ·rw [hgcell] at hv
   rw [hocell k' gc' rk hk e 0] at hv';rcases q5 v0 v hv0c hv with h1 | ⟨b,h1,h2⟩
   ·rw [h1];exact o3 v0 v' hv0c hv'
   ·refine .inr (fun h=>?_)
    rw [h1] at h;obtain ⟨_,hc⟩:=z2 v' b hv' h.symm;have:=(Array.getElem?_eq_some_iff.1 hc).1;omega
 refine ⟨WITH C K gc rs',⟨hS.small,hS.short,(hc5 0 (by decide)).trans hS.c0,(hc5 1 (by decide)).trans hS.c1,?_,fun i hi=>?_,?_,?_,?_,?_⟩,?_,?_,?_,?_,hc5,by rw [hs5];exact q6,fun hF=>hF.full (fun e=>by have:=q2 p;rw [e,if_pos rfl] at this;cases this)⟩
 ·rw [<-hw5]
  exact World.cell?_setCell_same _ _ _ (by rw [hcell 2];exact hS.c2)
 ·rw [<-hw5,World.frozen?_setCell]
  have:=hS.live i hi;unfold World.frozen? at this ⊢;rw [show W'.heap[g]?=W.heap[g]? from hg];exact this
 ·obtain ⟨cs',h1⟩:=z4z (i:=2) k1' (.int .u64 ((alive+1:Nat):Int))
  exact ⟨cs',t,fr,by rw [<-hw5];exact h1,k2,k3,k4⟩
 ·refine ⟨mv,(hc5 3 (by decide)).trans m1,fun e k=>?_,fun b e=>?_⟩
  ·have:=m2 e K
   rw [hK] at this;cases this
  ·obtain ⟨c1,n,c2,c3⟩:=m3 b e
   refine ⟨c1,n,c2,?_⟩
   have hM:(fun k=>(WITH C K gc rs' k).map Prod.fst)=fun k=>(C k).map Prod.fst:=funext fun k=>by
    by_cases e:k=K
    ·subst e;rw [z0z,hK];rfl
    ·rw [z0J e]
   rw [hM];refine c3.at ?_;obtain ⟨D,⟨es,clock,h1,_⟩,_⟩:=c3;have hbc:∀ {b' c t' fr'},W.heap[b']?=some (.cells c t' fr')->b≠b':=fun h2 e=>by rw [<-e,h1] at h2;cases h2
   refine (hset b (hbc k1)).trans (q8 b (Array.getElem?_eq_some_iff.1 h1).1 (hbc y1) (fun v hv e=>?_) (fun r hr e=>?_))
   ·obtain ⟨_,hc⟩:=y2 v b hv e
    exact hbc hc rfl
   ·obtain ⟨_,hc⟩:=y3 r hr
    exact hbc hc e.symm
 ·intro k gc' rk e
  by_cases ek:k=K
  ·subst ek
   rw [z0z] at e;cases e;refine ⟨a1,q1',fun r hr j hj hb=>?_⟩;rcases q3 r hr j hj hb with h1 | ⟨r0,h1,h2,h3⟩
   ·rw [h1];exact ⟨hp,hpl⟩
   ·rw [<-h2];exact a3 r0 h1 j hj h3
  ·rw [z0J ek] at e
   obtain ⟨b1,b2,b3⟩:=hS.chunk k gc' rk e;obtain ⟨d1,d2,d3⟩:=hother k gc' rk ek e;exact ⟨b1,b2.at d1 d2 d3,b3⟩
 ·intro k k' gk gk' rk rk' hne e e'
  by_cases ek:k=K
  ·subst ek
   rw [z0z] at e;cases e;rw [z0J (fun h=>hne h.symm)] at e';exact hone k' gk' rk' (fun h=>hne h.symm) e'
  ·rw [z0J ek] at e
   by_cases ek':k'=K
   ·subst ek'
    rw [z0z] at e';cases e';obtain ⟨o1,o2,o3⟩:=hone k gk rk ek e;refine ⟨fun h=>o1 h.symm,fun r hr r' hr' h=>o2 r' hr' r hr h.symm,fun v v' hv hv'=>?_⟩;rcases o3 v' v hv' hv with h | h
    ·by_cases hn:v.ownBlock=none
     ·exact .inl hn
     ·exact .inr (fun e=>hn (e.trans h))
    ·exact .inr (fun e=>h e.symm)
   ·rw [z0J ek'] at e'
    obtain ⟨o1,o2,o3⟩:=hS.one k k' gk gk' rk rk' hne e e';refine ⟨o1,o2,fun v v' hv hv'=>o3 v v' ?_ ?_⟩
    ·rw [<-hocell k gk rk ek e 0];exact hv
    ·rw [<-hocell k' gk' rk' ek' e' 0];exact hv'
 ·intro p'
  unfold AT;by_cases ek:p' / 2 ^ log=K
  ·rw [ek,z0z,hK]
   exact q2 p'
  ·rw [z0J ek,if_neg (fun e=>ek (by rw [e];exact hp))]
 ·intro hT k gc' rk e r hr j hj hb
  by_cases ek:k=K
  ·subst ek
   rw [z0z] at e;cases e;rcases q3 r hr j hj hb with h1 | ⟨r0,h1,h2,h3⟩
   ·omega
   ·rw [<-h2]
    have:=hT _ _ _ hK r0 h1 j hj h3;omega
  ·rw [z0J ek] at e
   have:=hT _ _ _ e r hr j hj hb;omega
 ·intro b hb
  rcases hb with h1 | ⟨k,gc',rk,e,h1⟩
  ·left;left
   rw [<-hc5 3 (by decide)];exact h1
  ·by_cases ek:k=K
   ·subst ek
    rw [z0z] at e;cases e;rcases h1 with h1 | ⟨v,hv,h1⟩ | ⟨r,hr,h1⟩
    ·exact .inl (.inr ⟨_,_,_,hK,.inl h1⟩)
    ·rw [hgcell] at hv
     rcases q5 v0 v hv0c hv with h2 | ⟨b',h2,h3⟩
     ·exact .inl (.inr ⟨_,_,_,hK,.inr (.inl ⟨v0,hv0c,by rw [<-h2];exact h1⟩)⟩)
     ·rw [h1] at h2
      cases h2;exact .inr h3
    ·rcases q4 r hr with ⟨r0,h2,h3⟩ | h2
     ·exact .inl (.inr ⟨_,_,_,hK,.inr (.inr ⟨r0,h2,by rw [h3];exact h1⟩)⟩)
     ·rw [h1] at h2
      exact .inr h2
   ·rw [z0J ek] at e
    rcases h1 with h1 | ⟨v,hv,h1⟩ | h1
    ·exact .inl (.inr ⟨_,_,_,e,.inl h1⟩)
    ·rw [hocell k gc' rk ek e 0] at hv
     exact .inl (.inr ⟨_,_,_,e,.inr (.inl ⟨v,hv,h1⟩)⟩)
    ·exact .inl (.inr ⟨_,_,_,e,.inr (.inr h1)⟩)
 ·intro b hb hbg hf
  exact (hset b hbg).trans (q8 b hb (fun e=>hf (.inr ⟨_,_,_,hK,.inl e⟩)) (fun v hv e=>hf (.inr ⟨_,_,_,hK,.inr (.inl ⟨v,hv,e⟩)⟩)) (fun r hr e=>hf (.inr ⟨_,_,_,hK,.inr (.inr ⟨r,hr,e⟩)⟩)))
structure STEP0 (w w':World) (g:Nat) (C C':z04):Prop where
 foot:∀ b,FOOT w' g C' b->FOOT w g C b\/w.heap.size<=b
 same:∀ b,b<w.heap.size->b≠g->¬ FOOT w g C b->w'.heap[b]?=w.heap[b]?
 size:w.heap.size<=w'.heap.size
 pins:∀ i,4<=i->w'.cell? ⟨g,i,none⟩=w.cell? ⟨g,i,none⟩
theorem STEP0.trans {w w' w'':World} {g:Nat} {C C' C'':z04} (h:STEP0 w w' g C C') (h':STEP0 w' w'' g C' C''):STEP0 w w'' g C C'':=by
 have hs:=h.size;refine ⟨fun b hb=>?_,fun b hb hg hf=>?_,Nat.le_trans h.size h'.size,fun i hi=>(h'.pins i hi).trans (h.pins i hi)⟩
 ·rcases h'.foot b hb with h1 | h1
  ·exact h.foot b h1
  ·exact .inr (by omega)
 ·refine (h'.same b (by omega) hg (fun hf'=>?_)).trans (h.same b hb hg hf)
  rcases h.foot b hf' with h1 | h1
  ·exact hf h1
  ·omega
structure STEP (w w':World) (g:Nat) (C C':z04):Prop extends STEP0 w w' g C C' where
 full:FULL C->FULL C'
theorem STEP.trans {w w' w'':World} {g:Nat} {C C' C'':z04} (h:STEP w w' g C C') (h':STEP w' w'' g C' C''):STEP w w'' g C C'':=⟨h.toSTEP0.trans h'.toSTEP0,fun x=>h'.full (h.full x)⟩
theorem STEP.of_with {w w' w'':World} {g K gc:Nat} {C C':z04} (h:STEP0 w w' g C (WITH C K gc [])) (h':STEP w' w'' g (WITH C K gc []) C') (hF:FULLB (WITH C K gc []) K->FULL C'):STEP w w'' g C C':=⟨h.trans h'.toSTEP0,fun x=>hF (x.but K).with⟩
theorem STEP.below {w w':World} {B g log len alive N:Nat} {C:z04} (hS:STORE w B g log len alive N C) (hb:Below w.heap.size w w'):STEP w w' g C C:=by
 have hg:=hS.lt;have cell:∀ i,w'.cell? ⟨g,i,none⟩=w.cell? ⟨g,i,none⟩:=fun i=>hb.cell (by exact hg);refine ⟨⟨fun b h=>.inl ?_,fun b h _ _=>hb.block b h,hb.size,fun i _=>cell i⟩,id⟩;rcases h with h | ⟨k,gc,rs,e,h⟩
 ·left;rw [<-cell 3];exact h
 ·refine .inr ⟨k,gc,rs,e,?_⟩
  rcases h with h | ⟨v,hv,h⟩ | h
  ·exact .inl h
  ·obtain ⟨x,hx,_⟩:=(hS.chunk k gc rs e).2.1.box
   exact .inr (.inl ⟨v,by rw [<-hv];exact (hb.cell (by exact hx.lt)).symm,h⟩)
  ·exact .inr (.inr h)
theorem STORE.put_step {W W':World} {B g log len alive N K gc p:Nat} {C:z04} {rs:List ROW} {h:Nat->Nat} (hS:STORE W B g log len alive N C) (hK:C K=some (gc,rs)) (hp:p / 2 ^ log=K) (hpl:p<len) (hP:PUTS W B gc p rs h W'):
  ∃ C',STORE (W'.setCell ⟨g,2,none⟩ (.int .u64 ((alive+1:Nat):Int))) B g log len (alive+1) N C'/\(∀ p',AT C' log p'=if p'=p then some h else AT C log p')/\(TOP C p->TOP C' (p+1))/\STEP W (W'.setCell ⟨g,2,none⟩ (.int .u64 ((alive+1:Nat):Int))) g C C'/\(FULLB C K->FULL C'):=by
 obtain ⟨C',h1,h2,h3,h4,h5,h6,h7,h8⟩:=hS.put hK hp hpl hP;exact ⟨C',h1,h2,h3,⟨⟨h4,h5,h7,fun i hi=>h6 i (by omega)⟩,fun x=>h8 (x.but K)⟩,h8⟩
theorem STORE.turn {W w2:World} {B g log len alive N K gc b:Nat} {C:z04} (hS:STORE W B g log len alive N C) (hm:W.cell? ⟨g,3,none⟩=some (.map (some b))) (hblk:∀ x,x<W.heap.size->x≠b->w2.heap[x]?=W.heap[x]?) (hsz:W.heap.size<=w2.heap.size) (hgc:W.heap.size<=gc) (hbox:Has w2 gc #[.slice none 0 0] 172)
  (hM:∃ n,n<=N+1/\ChunkMap w2 b n (fun j=>if j=K then some gc else (C j).map Prod.fst)) (hCK:C K=none) (hK:K<2 ^ 64):STORE w2 B g log len alive (N+1) (WITH C K gc [])/\(∀ p',AT (WITH C K gc []) log p'=AT C log p')/\(∀ p,TOP C p->TOP (WITH C K gc []) p)/\STEP0 W w2 g C (WITH C K gc []):=by
 obtain ⟨cs,t,fr,k1,k2,k3,k4⟩:=hS.kind;obtain ⟨mv,m1,m2,m3⟩:=hS.map;rw [hm] at m1;have hmv:mv=some b:=by cases Option.some.inj m1;rfl
 subst hmv;obtain ⟨hBb,n0,_,hcm⟩:=m3 b rfl;have hbl:=hcm.lt;obtain ⟨D,⟨es,clock,hbm,_⟩,_⟩:=hcm;have hbc:∀ {b' c t' fr'},W.heap[b']?=some (.cells c t' fr')->b'≠b:=fun h2 e=>by rw [e,hbm] at h2;cases h2
 have hlt:∀ {b':Nat} {o:Obj},W.heap[b']?=some o->b'<W.heap.size:=fun h=>(Array.getElem?_eq_some_iff.1 h).1;have hgb:w2.heap[g]?=W.heap[g]?:=hblk g hS.lt (hbc k1);have cell:∀ i,w2.cell? ⟨g,i,none⟩=W.cell? ⟨g,i,none⟩:=fun i=>World.cell?_of_block (w:=W) (by exact hgb)
 have hch:∀ k gc' rk,C k=some (gc',rk)->(w2.heap[gc']?=W.heap[gc']?/\(∀ v x,W.cell? ⟨gc',0,none⟩=some v->v.ownBlock=some x->w2.heap[x]?=W.heap[x]?)/\∀ r∈rk,w2.heap[r.gh]?=W.heap[r.gh]?)/\gc'<W.heap.size:=fun k gc' rk e=>by
  obtain ⟨⟨_,z1⟩,z2,z3⟩:=(hS.chunk k gc' rk e).2.1.kinds;refine ⟨⟨hblk _ (hlt z1) (hbc z1),fun v x hv hx=>?_,fun r hr=>?_⟩,hlt z1⟩
  ·obtain ⟨_,hc⟩:=z2 v x hv hx
   exact hblk _ (hlt hc) (hbc hc)
  ·obtain ⟨_,hc⟩:=z3 r hr
   exact hblk _ (hlt hc) (hbc hc)
 have hcc:∀ k gc' rk,C k=some (gc',rk)->∀ i,w2.cell? ⟨gc',i,none⟩=W.cell? ⟨gc',i,none⟩:=fun k gc' rk e i=>World.cell?_of_block (w:=W) (by exact (hch k gc' rk e).1.1);have hgcell:w2.cell? ⟨gc,0,none⟩=some (.slice none 0 0):=hbox.cell 0;have hC0:CHUNK w2 B gc []:=⟨⟨_,hbox,World.ownsRow_nil _ _ _ _⟩,by omega,by decide,fun i j r s _ h=>(by simp at h),fun r hr=>(by cases hr),fun i j r s _ h=>(by simp at h),fun r hr=>by cases hr⟩
 refine ⟨⟨hS.small,hS.short,(cell 0).trans hS.c0,(cell 1).trans hS.c1,(cell 2).trans hS.c2,fun i hi=>?_,⟨cs,t,fr,hgb.trans k1,k2,k3,k4⟩,?_,?_,?_⟩,?_,?_,?_⟩
 ·have:=hS.live i hi
  unfold World.frozen? at this ⊢;rw [show w2.heap[g]?=W.heap[g]? from hgb];exact this
 ·refine ⟨some b,(cell 3).trans hm,(fun e=>by cases e),fun b' e=>?_⟩
  cases e;obtain ⟨n,h1,h2⟩:=hM;refine ⟨hBb,n,h1,?_⟩
  have hE:(fun k=>(WITH C K gc [] k).map Prod.fst)=fun j=>if j=K then some gc else (C j).map Prod.fst:=funext fun j=>by
   by_cases e:j=K
   ·subst e;rw [z0z,if_pos rfl];rfl
   ·rw [z0J e,if_neg e]
  rw [hE];exact h2
 ·intro k gc' rk e
  by_cases ek:k=K
  ·subst ek
   rw [z0z] at e;cases e;exact ⟨hK,hC0,fun r hr=>by cases hr⟩
  ·rw [z0J ek] at e
   obtain ⟨b1,b2,b3⟩:=hS.chunk k gc' rk e;obtain ⟨⟨d1,d2,d3⟩,_⟩:=hch k gc' rk e;exact ⟨b1,b2.at d1 d2 d3,b3⟩
 ·intro k k' gk gk' rk rk' hne e e'
  by_cases ek:k=K
  ·subst ek
   rw [z0z] at e;cases e;rw [z0J (fun h=>hne h.symm)] at e';refine ⟨by have:=(hch _ _ _ e').2;omega,fun r hr=>(by cases hr),fun v v' hv _=>.inl ?_⟩;rw [hgcell] at hv;cases Option.some.inj hv;rfl
  ·rw [z0J ek] at e
   by_cases ek':k'=K
   ·subst ek'
    rw [z0z] at e';cases e';refine ⟨by have:=(hch _ _ _ e).2;omega,fun r _ r' hr'=>(by cases hr'),fun v v' hv hv'=>?_⟩;rw [hgcell] at hv';cases Option.some.inj hv';by_cases hn:v.ownBlock=none
    ·exact .inl hn
    ·exact .inr hn
   ·rw [z0J ek'] at e'
    obtain ⟨o1,o2,o3⟩:=hS.one k k' gk gk' rk rk' hne e e';refine ⟨o1,o2,fun v v' hv hv'=>o3 v v' ?_ ?_⟩
    ·rw [<-hcc k gk rk e 0];exact hv
    ·rw [<-hcc k' gk' rk' e' 0];exact hv'
 ·intro p'
  unfold AT;by_cases ek:p' / 2 ^ log=K
  ·rw [ek,z0z,hCK]
   rfl
  ·rw [z0J ek]
 ·intro p hT k gc' rk e r hr j hj hb
  by_cases ek:k=K
  ·subst ek
   rw [z0z] at e;cases e;cases hr
  ·rw [z0J ek] at e
   exact hT _ _ _ e r hr j hj hb
 ·refine ⟨fun x hx=>?_,fun x hx hxg hf=>hblk x hx (fun e=>hf (.inl (by rw [e];exact hm))),hsz,fun i _=>cell i⟩
  rcases hx with h | ⟨k,gc',rk,e,h⟩
  ·left;left;rw [<-cell 3];exact h
  ·by_cases ek:k=K
   ·subst ek
    rw [z0z] at e;cases e;rcases h with h | ⟨v,hv,h⟩ | ⟨r,hr,_⟩
    ·exact .inr (by omega)
    ·rw [hgcell] at hv
     cases Option.some.inj hv;cases h
    ·cases hr
   ·rw [z0J ek] at e
    refine .inl (.inr ⟨k,gc',rk,e,?_⟩);rcases h with h | ⟨v,hv,h⟩ | h
    ·exact .inl h
    ·exact .inr (.inl ⟨v,by rw [<-hcc k gc' rk e 0];exact hv,h⟩)
    ·exact .inr (.inr h)
theorem STORE.mapped {W:World} {B g log len alive N:Nat} {C:z04} (hS:STORE W B g log len alive N C) (hm:W.cell? ⟨g,3,none⟩=some (.map none)) (hB:B<=W.heap.size):(∀ k,C k=none)/\STORE ((W.alloc (.map #[] 0)).setCell ⟨g,3,none⟩ (.map (some W.heap.size))) B g log len alive N C/\STEP W ((W.alloc (.map #[] 0)).setCell ⟨g,3,none⟩ (.map (some W.heap.size))) g C C:=by
 obtain ⟨cs,t,fr,k1,k2,k3,k4⟩:=hS.kind;obtain ⟨mv,m1,m2,m3⟩:=hS.map;rw [hm] at m1;have hmv:mv=none:=by cases Option.some.inj m1;rfl
 have hC:=m2 hmv;have hg:=hS.lt;have hb:Below W.heap.size W (W.alloc (.map #[] 0)):=(Below.refl _ _).alloc (Nat.le_refl _) _;have hS1:=hS.below hb;obtain ⟨w2,hw2⟩:∃ w2,(W.alloc (.map #[] 0)).setCell ⟨g,3,none⟩ (.map (some W.heap.size))=w2:=⟨_,rfl⟩
 rw [hw2];have hset:∀ b,b≠g->w2.heap[b]?=(W.alloc (.map #[] 0)).heap[b]?:=fun b hb=>by rw [<-hw2];exact Below.heap_setCell _ _ _ b (by exact hb)
 have cell:∀ i,i≠3->w2.cell? ⟨g,i,none⟩=W.cell? ⟨g,i,none⟩:=fun i hi=>by rw [<-hw2,z1W (fun e=>hi e.symm)];exact hb.cell (by exact hg)
 have c3:w2.cell? ⟨g,3,none⟩=some (.map (some W.heap.size)):=by rw [<-hw2];exact World.cell?_setCell_same _ _ _ ((hb.cell (by exact hg)).trans hm)
 refine ⟨hC,⟨hS.small,hS.short,(cell 0 (by decide)).trans hS.c0,(cell 1 (by decide)).trans hS.c1,(cell 2 (by decide)).trans hS.c2,fun i hi=>?_,?_,?_,fun k gc rs e=>(by rw [hC k] at e;cases e),fun k k' gc gc' rs rs' _ e=>by rw [hC k] at e;cases e⟩,?_⟩
 ·rw [<-hw2,World.frozen?_setCell]
  exact hS1.live i hi
 ·obtain ⟨cs',h1⟩:=z4z (i:=3) ((hb.block g hg).trans k1) (.map (some W.heap.size))
  exact ⟨cs',t,fr,by rw [<-hw2];exact h1,k2,k3,k4⟩
 ·refine ⟨_,c3,(fun e=>by cases e),fun b e=>?_⟩
  cases e;refine ⟨hB,0,Nat.zero_le _,?_⟩;have hE:(fun k=>(C k).map Prod.fst)=fun _=>none:=funext fun k=>by rw [hC k];rfl
  rw [hE];exact (ChunkMap.made W).at (hset _ (by omega))
 ·refine ⟨⟨fun b h=>?_,fun b hb' hbg _=>(hset b hbg).trans (hb.block b hb'),?_,fun i hi=>cell i (by omega)⟩,id⟩
  ·rcases h with h | ⟨k,gc,rs,e,_⟩
   ·rw [c3] at h
    have h2:=Option.some.inj h;cases h2;exact .inr (Nat.le_refl _)
   ·rw [hC k] at e;cases e
  ·rw [<-hw2]
   simp
end Go.Proofs.YtnimaaflmdoaaaaGreatDoor.HX
