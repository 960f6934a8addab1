/- ClashTrees: part 6. -/
import Derived.Laws.BitsAllLaws
import Derived.Test.YtnimaaflmdoaaaaGreatDoorClashTreesP5
set_option maxHeartbeats 2000000
namespace Go.Proofs.YtnimaaflmdoaaaaGreatDoor
open Go.RowKit
set_option maxRecDepth 100000
theorem z9z {w:World} {g:Nat} {x y:List Int} (h:Has w g (z00 x).toArray 23) (hx:x.length=32) (hy:y.length=32):(Instr.storeAt 23 (.pointer (some ⟨g,0,none⟩)) (.agg (z00 y).toArray)).run Tryz.prog w=.ok () (w.setRow g (z00 y).toArray):=by
 simp only [Instr.storeAt,Instr.sureAddr,Sem.run_bind,Sem.run_pure,Result.andThen];exact run_storeVar_row w g 23 23 (z00 x).toArray (z00 y).toArray h (z07 hy) (by simp [z00,hx,hy]) (z0p y)
def z2w:Array Oper:=#[⟨some 29,.move (.tmp 6),143,"climbed.go:20",#[],none⟩,⟨some 30,.load 110 (.tmp 9),110,"climbed.go:20",#[],none⟩,⟨some 31,.move (.tmp 1),42,"climbed.go:20",#[],none⟩,⟨some 32,.move (.tmp 7),3,"climbed.go:20",#[],none⟩,⟨some 33,.indexAddr 42 (.tmp 31) (.tmp 32),0,"climbed.go:20",#[⟨2,.data⟩,⟨3,.data⟩],none⟩,⟨some 34,.load 23 (.tmp 33),23,"climbed.go:20",#[⟨4,.data⟩],none⟩,⟨none,.mapUpdate 143 (.tmp 29) (.tmp 30) (.tmp 34),0,"climbed.go:20",#[⟨0,.data⟩,⟨1,.data⟩,⟨5,.data⟩,⟨0,.phase⟩,⟨1,.phase⟩,⟨2,.phase⟩,⟨3,.phase⟩,⟨4,.phase⟩,⟨5,.phase⟩],none⟩]
theorem z7Q {Q:Exit->Act->World->Prop} (u0 u2 u3 u4 u5 u8 u10 u11 u12 u13 u14 u15 u16 u17 u18 u19 u20 u21 u22 u23 u24 u25 u26 u27 u28 u29 u30 u31 u32 u33 u34 u35 u36:Value) (W:World) (mb b9 gn o n c i h k:Nat) (H:List Int) (hH:H.length=32) (b1:(i:Int)<(n:Int)) (P0 P1:World->Prop) (t0:∀ w,P0 w->(fun W:World=>W.cell? ⟨b9,0,none⟩=some (.int .u8 (h:Int))/\W.cell? ⟨b9,1,none⟩=some (.int .u64 (k:Int))/\W.rangeAt gn (o+i*32) (z00 H)) w) (t1:∀ w,P1 w->(fun W:World=>W.cell? ⟨b9,0,none⟩=some (.int .u8 (h:Int))/\W.cell? ⟨b9,1,none⟩=some (.int .u64 (k:Int))/\W.rangeAt gn (o+i*32) (z00 H)) w) (s1:∀ w,P0 w->∃ w',(Instr.mapUpdate 143 (.map (some mb)) (.agg #[.int .u8 (h:Int),.int .u64 (k:Int)]) (.agg (z00 H).toArray)).run Tryz.prog w=.ok () w'/\P1 w') (h0:P0 W.drew) (hQ:∀ c (a:Act) (t:Tmp) (v:Value) w,Q (.panic c) (a.put (some t) v) w->Q (.panic c) a w)
  (hfin:∀ (w:World),P1 w->Q .normal {tmps:=#[u0,.slice (some ⟨gn,o,none⟩) n c,u2,u3,u4,u5,.map (some mb),.int .i64 (i:Int),u8,.pointer (some ⟨b9,0,none⟩),u10,u11,u12,u13,u14,u15,u16,u17,u18,u19,u20,u21,u22,u23,u24,u25,u26,u27,u28,.map (some mb),.agg #[.int .u8 (h:Int),.int .u64 (k:Int)],.slice (some ⟨gn,o,none⟩) n c,.int .i64 (i:Int),.pointer (some ⟨gn,o+i*32,none⟩),.agg (z00 H).toArray,u35,u36],defers:=[]} w):(Code.region 8 z2w true).wp Tryz.prog Q {tmps:=#[u0,.slice (some ⟨gn,o,none⟩) n c,u2,u3,u4,u5,.map (some mb),.int .i64 (i:Int),u8,.pointer (some ⟨b9,0,none⟩),u10,u11,u12,u13,u14,u15,u16,u17,u18,u19,u20,u21,u22,u23,u24,u25,u26,u27,u28,u29,u30,u31,u32,u33,u34,u35,u36],defers:=[]} W:=by
 have k1:∀ (w:World),P1 w->wpAnyH Tryz.prog .any z2w Q (fun W:World=>W.cell? ⟨b9,0,none⟩=some (.int .u8 (h:Int))/\W.cell? ⟨b9,1,none⟩=some (.int .u64 (k:Int))/\W.rangeAt gn (o+i*32) (z00 H)) 0 #[true,true,true,true,true,true,true] {tmps:=#[u0,.slice (some ⟨gn,o,none⟩) n c,u2,u3,u4,u5,.map (some mb),.int .i64 (i:Int),u8,.pointer (some ⟨b9,0,none⟩),u10,u11,u12,u13,u14,u15,u16,u17,u18,u19,u20,u21,u22,u23,u24,u25,u26,u27,u28,.map (some mb),.agg #[.int .u8 (h:Int),.int .u64 (k:Int)],.slice (some ⟨gn,o,none⟩) n c,.int .i64 (i:Int),.pointer (some ⟨gn,o+i*32,none⟩),.agg (z00 H).toArray,u35,u36],defers:=[]} w:=fun  w hp=>by
  have hww:(fun W:World=>W.cell? ⟨b9,0,none⟩=some (.int .u8 (h:Int))/\W.cell? ⟨b9,1,none⟩=some (.int .u64 (k:Int))/\W.rangeAt gn (o+i*32) (z00 H)) w:=t1 _ hp;have last:wpAnyH Tryz.prog .any z2w Q (fun W:World=>W.cell? ⟨b9,0,none⟩=some (.int .u8 (h:Int))/\W.cell? ⟨b9,1,none⟩=some (.int .u64 (k:Int))/\W.rangeAt gn (o+i*32) (z00 H)) 0 #[true,true,true,true,true,true,true] {tmps:=#[u0,.slice (some ⟨gn,o,none⟩) n c,u2,u3,u4,u5,.map (some mb),.int .i64 (i:Int),u8,.pointer (some ⟨b9,0,none⟩),u10,u11,u12,u13,u14,u15,u16,u17,u18,u19,u20,u21,u22,u23,u24,u25,u26,u27,u28,.map (some mb),.agg #[.int .u8 (h:Int),.int .u64 (k:Int)],.slice (some ⟨gn,o,none⟩) n c,.int .i64 (i:Int),.pointer (some ⟨gn,o+i*32,none⟩),.agg (z00 H).toArray,u35,u36],defers:=[]} w:=wpAnyH_done (by kernel_rfl) (hfin  w hp) _;exact last
 have k0:∀ (w:World),P0 w->wpAnyH Tryz.prog .any z2w Q (fun W:World=>W.cell? ⟨b9,0,none⟩=some (.int .u8 (h:Int))/\W.cell? ⟨b9,1,none⟩=some (.int .u64 (k:Int))/\W.rangeAt gn (o+i*32) (z00 H)) 7 #[false,false,false,false,false,false,false] {tmps:=#[u0,.slice (some ⟨gn,o,none⟩) n c,u2,u3,u4,u5,.map (some mb),.int .i64 (i:Int),u8,.pointer (some ⟨b9,0,none⟩),u10,u11,u12,u13,u14,u15,u16,u17,u18,u19,u20,u21,u22,u23,u24,u25,u26,u27,u28,u29,u30,u31,u32,u33,u34,u35,u36],defers:=[]} w:=fun  w hp=>by
  have hww:(fun W:World=>W.cell? ⟨b9,0,none⟩=some (.int .u8 (h:Int))/\W.cell? ⟨b9,1,none⟩=some (.int .u64 (k:Int))/\W.rangeAt gn (o+i*32) (z00 H)) w:=t0 _ hp
  have last:wpAnyH Tryz.prog .any z2w Q (fun W:World=>W.cell? ⟨b9,0,none⟩=some (.int .u8 (h:Int))/\W.cell? ⟨b9,1,none⟩=some (.int .u64 (k:Int))/\W.rangeAt gn (o+i*32) (z00 H)) 1 #[true,true,true,true,true,true,false] {tmps:=#[u0,.slice (some ⟨gn,o,none⟩) n c,u2,u3,u4,u5,.map (some mb),.int .i64 (i:Int),u8,.pointer (some ⟨b9,0,none⟩),u10,u11,u12,u13,u14,u15,u16,u17,u18,u19,u20,u21,u22,u23,u24,u25,u26,u27,u28,.map (some mb),.agg #[.int .u8 (h:Int),.int .u64 (k:Int)],.slice (some ⟨gn,o,none⟩) n c,.int .i64 (i:Int),.pointer (some ⟨gn,o+i*32,none⟩),.agg (z00 H).toArray,u35,u36],defers:=[]} w:=by
   obtain ⟨w',hr,hp⟩:=s1 w hp;refine z1B (o:=⟨none,.mapUpdate 143 (.tmp 29) (.tmp 30) (.tmp 34),0,"climbed.go:20",#[⟨0,.data⟩,⟨1,.data⟩,⟨5,.data⟩,⟨0,.phase⟩,⟨1,.phase⟩,⟨2,.phase⟩,⟨3,.phase⟩,⟨4,.phase⟩,⟨5,.phase⟩],none⟩) 6 (by kernel_rfl) rfl (fun K hK=>?_);exact z0A rfl (z1k hr) (hK.out _ _ (t1 _ hp) (fun _=>k1  w' hp))
  have t5:wpAnyH Tryz.prog .any z2w Q (fun W:World=>W.cell? ⟨b9,0,none⟩=some (.int .u8 (h:Int))/\W.cell? ⟨b9,1,none⟩=some (.int .u64 (k:Int))/\W.rangeAt gn (o+i*32) (z00 H)) 2 #[true,true,true,true,true,false,false] {tmps:=#[u0,.slice (some ⟨gn,o,none⟩) n c,u2,u3,u4,u5,.map (some mb),.int .i64 (i:Int),u8,.pointer (some ⟨b9,0,none⟩),u10,u11,u12,u13,u14,u15,u16,u17,u18,u19,u20,u21,u22,u23,u24,u25,u26,u27,u28,.map (some mb),.agg #[.int .u8 (h:Int),.int .u64 (k:Int)],.slice (some ⟨gn,o,none⟩) n c,.int .i64 (i:Int),.pointer (some ⟨gn,o+i*32,none⟩),u34,u35,u36],defers:=[]} w:=
   wpAnyH_take (i:=5) (oi:=⟨some 34,.load 23 (.tmp 33),23,"climbed.go:20",#[⟨4,.data⟩],none⟩) (v:=.agg (z00 H).toArray) rfl (by kernel_rfl) (by kernel_rfl) (by kernel_rfl) (fun _ _ _ h=>hQ _ _ _ _ _ h) (yieldsIf_load_mid (by rfl) 23 (.tmp 33) rfl gn (o+i*32) rfl (z00 H) _ (fun w h=>h.2.2) Tryz.underlying23 rfl (z0a hH)) hww last
  have t4:wpAnyH Tryz.prog .any z2w Q (fun W:World=>W.cell? ⟨b9,0,none⟩=some (.int .u8 (h:Int))/\W.cell? ⟨b9,1,none⟩=some (.int .u64 (k:Int))/\W.rangeAt gn (o+i*32) (z00 H)) 3 #[true,true,true,true,false,false,false] {tmps:=#[u0,.slice (some ⟨gn,o,none⟩) n c,u2,u3,u4,u5,.map (some mb),.int .i64 (i:Int),u8,.pointer (some ⟨b9,0,none⟩),u10,u11,u12,u13,u14,u15,u16,u17,u18,u19,u20,u21,u22,u23,u24,u25,u26,u27,u28,.map (some mb),.agg #[.int .u8 (h:Int),.int .u64 (k:Int)],.slice (some ⟨gn,o,none⟩) n c,.int .i64 (i:Int),u33,u34,u35,u36],defers:=[]} w:=
   wpAnyH_take (i:=4) (oi:=⟨some 33,.indexAddr 42 (.tmp 31) (.tmp 32),0,"climbed.go:20",#[⟨2,.data⟩,⟨3,.data⟩],none⟩) (v:=.pointer (some ⟨gn,o+i*32,none⟩)) rfl (by kernel_rfl) (by kernel_rfl) (by kernel_rfl) (fun _ _ _ h=>hQ _ _ _ _ _ h) (Yields.yieldsIf (Or.inl ⟨by rfl,fun W=>by go_simp⟩)) hww t5
  have t3:wpAnyH Tryz.prog .any z2w Q (fun W:World=>W.cell? ⟨b9,0,none⟩=some (.int .u8 (h:Int))/\W.cell? ⟨b9,1,none⟩=some (.int .u64 (k:Int))/\W.rangeAt gn (o+i*32) (z00 H)) 4 #[true,true,true,false,false,false,false] {tmps:=#[u0,.slice (some ⟨gn,o,none⟩) n c,u2,u3,u4,u5,.map (some mb),.int .i64 (i:Int),u8,.pointer (some ⟨b9,0,none⟩),u10,u11,u12,u13,u14,u15,u16,u17,u18,u19,u20,u21,u22,u23,u24,u25,u26,u27,u28,.map (some mb),.agg #[.int .u8 (h:Int),.int .u64 (k:Int)],.slice (some ⟨gn,o,none⟩) n c,u32,u33,u34,u35,u36],defers:=[]} w:=
   wpAnyH_take (i:=3) (oi:=⟨some 32,.move (.tmp 7),3,"climbed.go:20",#[],none⟩) (v:=.int .i64 (i:Int)) rfl (by kernel_rfl) (by kernel_rfl) (by kernel_rfl) (fun _ _ _ h=>hQ _ _ _ _ _ h) (Yields.yieldsIf (Or.inl ⟨by rfl,fun W=>by go_simp⟩)) hww t4
  have t2:wpAnyH Tryz.prog .any z2w Q (fun W:World=>W.cell? ⟨b9,0,none⟩=some (.int .u8 (h:Int))/\W.cell? ⟨b9,1,none⟩=some (.int .u64 (k:Int))/\W.rangeAt gn (o+i*32) (z00 H)) 5 #[true,true,false,false,false,false,false] {tmps:=#[u0,.slice (some ⟨gn,o,none⟩) n c,u2,u3,u4,u5,.map (some mb),.int .i64 (i:Int),u8,.pointer (some ⟨b9,0,none⟩),u10,u11,u12,u13,u14,u15,u16,u17,u18,u19,u20,u21,u22,u23,u24,u25,u26,u27,u28,.map (some mb),.agg #[.int .u8 (h:Int),.int .u64 (k:Int)],u31,u32,u33,u34,u35,u36],defers:=[]} w:=
   wpAnyH_take (i:=2) (oi:=⟨some 31,.move (.tmp 1),42,"climbed.go:20",#[],none⟩) (v:=.slice (some ⟨gn,o,none⟩) n c) rfl (by kernel_rfl) (by kernel_rfl) (by kernel_rfl) (fun _ _ _ h=>hQ _ _ _ _ _ h) (Yields.yieldsIf (Or.inl ⟨by rfl,fun W=>by go_simp⟩)) hww t3
  have t1:wpAnyH Tryz.prog .any z2w Q (fun W:World=>W.cell? ⟨b9,0,none⟩=some (.int .u8 (h:Int))/\W.cell? ⟨b9,1,none⟩=some (.int .u64 (k:Int))/\W.rangeAt gn (o+i*32) (z00 H)) 6 #[true,false,false,false,false,false,false] {tmps:=#[u0,.slice (some ⟨gn,o,none⟩) n c,u2,u3,u4,u5,.map (some mb),.int .i64 (i:Int),u8,.pointer (some ⟨b9,0,none⟩),u10,u11,u12,u13,u14,u15,u16,u17,u18,u19,u20,u21,u22,u23,u24,u25,u26,u27,u28,.map (some mb),u30,u31,u32,u33,u34,u35,u36],defers:=[]} w:=
   wpAnyH_take (i:=1) (oi:=⟨some 30,.load 110 (.tmp 9),110,"climbed.go:20",#[],none⟩) (v:=.agg #[.int .u8 (h:Int),.int .u64 (k:Int)]) rfl (by kernel_rfl) (by kernel_rfl) (by kernel_rfl) (fun _ _ _ h=>hQ _ _ _ _ _ h) (Or.inl ⟨by rfl,fun w hw=>by have hx:=hw.1;have hy:=hw.2.1;go_simp⟩) hww t2
  have t0:wpAnyH Tryz.prog .any z2w Q (fun W:World=>W.cell? ⟨b9,0,none⟩=some (.int .u8 (h:Int))/\W.cell? ⟨b9,1,none⟩=some (.int .u64 (k:Int))/\W.rangeAt gn (o+i*32) (z00 H)) 7 #[false,false,false,false,false,false,false] {tmps:=#[u0,.slice (some ⟨gn,o,none⟩) n c,u2,u3,u4,u5,.map (some mb),.int .i64 (i:Int),u8,.pointer (some ⟨b9,0,none⟩),u10,u11,u12,u13,u14,u15,u16,u17,u18,u19,u20,u21,u22,u23,u24,u25,u26,u27,u28,u29,u30,u31,u32,u33,u34,u35,u36],defers:=[]} w:=
   wpAnyH_take (i:=0) (oi:=⟨some 29,.move (.tmp 6),143,"climbed.go:20",#[],none⟩) (v:=.map (some mb)) rfl (by kernel_rfl) (by kernel_rfl) (by kernel_rfl) (fun _ _ _ h=>hQ _ _ _ _ _ h) (Yields.yieldsIf (Or.inl ⟨by rfl,fun W=>by go_simp⟩)) hww t1
  exact t0
 have hp:=h0;exact wp_region_held_drew (S:=(fun W:World=>W.cell? ⟨b9,0,none⟩=some (.int .u8 (h:Int))/\W.cell? ⟨b9,1,none⟩=some (.int .u64 (k:Int))/\W.rangeAt gn (o+i*32) (z00 H))) (by kernel_rfl) (t0 _ hp) (fun _=>k0 _ hp)
def z2b:Array Oper:=#[⟨some 27,.move (.tmp 0),143,"climbed.go:30",#[],none⟩,⟨some 28,.load 110 (.tmp 5),110,"climbed.go:30",#[],none⟩,⟨some 29,.move (.tmp 1),3,"climbed.go:30",#[],none⟩,⟨some 30,.load 23 (.tmp 6),23,"climbed.go:30",#[],none⟩,⟨some 31,.load 23 (.tmp 7),23,"climbed.go:30",#[],none⟩,⟨some 32,.call {callee:=.value (.func 39),args:=#[.tmp 29,.tmp 30,.tmp 31],argTypes:=#[3,23,23]},23,"climbed.go:30",#[⟨2,.data⟩,⟨3,.data⟩,⟨4,.data⟩],none⟩,⟨none,.mapUpdate 143 (.tmp 27) (.tmp 28) (.tmp 32),0,"climbed.go:30",#[⟨0,.data⟩,⟨1,.data⟩,⟨5,.data⟩,⟨5,.chain⟩,⟨0,.phase⟩,⟨1,.phase⟩,⟨2,.phase⟩,⟨3,.phase⟩,⟨4,.phase⟩,⟨5,.phase⟩],none⟩]
theorem z9A {Q:Exit->Act->World->Prop} (u2 u3 u4 u8 u9 u10 u11 u12 u13 u14 u15 u16 u17 u18 u19 u20 u21 u22 u23 u24 u25 u26 u27 u28 u29 u30 u31 u32:Value) (W:World) (mb b5 b6 b7 h k:Nat) (d:Int) (L R:List Int) (hL:L.length=32) (hR:R.length=32) (P0:World->Prop) (P1 P2:Value->World->Prop) (t0:∀ w,P0 w->(fun W:World=>W.cell? ⟨b5,0,none⟩=some (.int .u8 (h:Int))/\W.cell? ⟨b5,1,none⟩=some (.int .u64 (k:Int))/\W.rangeAt b6 0 (z00 L)/\W.rangeAt b7 0 (z00 R)) w) (t1:∀ X w,P1 X w->(fun W:World=>W.cell? ⟨b5,0,none⟩=some (.int .u8 (h:Int))/\W.cell? ⟨b5,1,none⟩=some (.int .u64 (k:Int))/\W.rangeAt b6 0 (z00 L)/\W.rangeAt b7 0 (z00 R)) w) (t2:∀ X w,P2 X w->(fun W:World=>W.cell? ⟨b5,0,none⟩=some (.int .u8 (h:Int))/\W.cell? ⟨b5,1,none⟩=some (.int .u64 (k:Int))/\W.rangeAt b6 0 (z00 L)/\W.rangeAt b7 0 (z00 R)) w) (c1:∀ w,P0 w->Calls Tryz.prog 39 #[.int .i64 d,.agg (z00 L).toArray,.agg (z00 R).toArray] w fun e w'=>∃ X,e=.returned X/\P1 X w') (s1:∀ X w,P1 X w->∃ w',(Instr.mapUpdate 143 (.map (some mb)) (.agg #[.int .u8 (h:Int),.int .u64 (k:Int)]) X).run Tryz.prog w=.ok () w'/\P2 X w') (h0:P0 W.drew) (hQ:∀ c (a:Act) (t:Tmp) (v:Value) w,Q (.panic c) (a.put (some t) v) w->Q (.panic c) a w)
  (hfin:∀ (X:Value) (w:World),P2 X w->Q .normal {tmps:=#[.map (some mb),.int .i64 d,u2,u3,u4,.pointer (some ⟨b5,0,none⟩),.pointer (some ⟨b6,0,none⟩),.pointer (some ⟨b7,0,none⟩),u8,u9,u10,u11,u12,u13,u14,u15,u16,u17,u18,u19,u20,u21,u22,u23,u24,u25,u26,.map (some mb),.agg #[.int .u8 (h:Int),.int .u64 (k:Int)],.int .i64 d,.agg (z00 L).toArray,.agg (z00 R).toArray,X],defers:=[]} w):(Code.region 3 z2b true).wp Tryz.prog Q {tmps:=#[.map (some mb),.int .i64 d,u2,u3,u4,.pointer (some ⟨b5,0,none⟩),.pointer (some ⟨b6,0,none⟩),.pointer (some ⟨b7,0,none⟩),u8,u9,u10,u11,u12,u13,u14,u15,u16,u17,u18,u19,u20,u21,u22,u23,u24,u25,u26,u27,u28,u29,u30,u31,u32],defers:=[]} W:=by
 have k2:∀ (X:Value) (w:World),P2 X w->wpAnyH Tryz.prog .any z2b Q (fun W:World=>W.cell? ⟨b5,0,none⟩=some (.int .u8 (h:Int))/\W.cell? ⟨b5,1,none⟩=some (.int .u64 (k:Int))/\W.rangeAt b6 0 (z00 L)/\W.rangeAt b7 0 (z00 R)) 0 #[true,true,true,true,true,true,true] {tmps:=#[.map (some mb),.int .i64 d,u2,u3,u4,.pointer (some ⟨b5,0,none⟩),.pointer (some ⟨b6,0,none⟩),.pointer (some ⟨b7,0,none⟩),u8,u9,u10,u11,u12,u13,u14,u15,u16,u17,u18,u19,u20,u21,u22,u23,u24,u25,u26,.map (some mb),.agg #[.int .u8 (h:Int),.int .u64 (k:Int)],.int .i64 d,.agg (z00 L).toArray,.agg (z00 R).toArray,X],defers:=[]} w:=fun X w hp=>by
  have hww:(fun W:World=>W.cell? ⟨b5,0,none⟩=some (.int .u8 (h:Int))/\W.cell? ⟨b5,1,none⟩=some (.int .u64 (k:Int))/\W.rangeAt b6 0 (z00 L)/\W.rangeAt b7 0 (z00 R)) w:=t2 _ _ hp;have last:wpAnyH Tryz.prog .any z2b Q (fun W:World=>W.cell? ⟨b5,0,none⟩=some (.int .u8 (h:Int))/\W.cell? ⟨b5,1,none⟩=some (.int .u64 (k:Int))/\W.rangeAt b6 0 (z00 L)/\W.rangeAt b7 0 (z00 R)) 0 #[true,true,true,true,true,true,true] {tmps:=#[.map (some mb),.int .i64 d,u2,u3,u4,.pointer (some ⟨b5,0,none⟩),.pointer (some ⟨b6,0,none⟩),.pointer (some ⟨b7,0,none⟩),u8,u9,u10,u11,u12,u13,u14,u15,u16,u17,u18,u19,u20,u21,u22,u23,u24,u25,u26,.map (some mb),.agg #[.int .u8 (h:Int),.int .u64 (k:Int)],.int .i64 d,.agg (z00 L).toArray,.agg (z00 R).toArray,X],defers:=[]} w:=wpAnyH_done (by kernel_rfl) (hfin X w hp) _;exact last
 have k1:∀ (X:Value) (w:World),P1 X w->wpAnyH Tryz.prog .any z2b Q (fun W:World=>W.cell? ⟨b5,0,none⟩=some (.int .u8 (h:Int))/\W.cell? ⟨b5,1,none⟩=some (.int .u64 (k:Int))/\W.rangeAt b6 0 (z00 L)/\W.rangeAt b7 0 (z00 R)) 1 #[true,true,true,true,true,true,false] {tmps:=#[.map (some mb),.int .i64 d,u2,u3,u4,.pointer (some ⟨b5,0,none⟩),.pointer (some ⟨b6,0,none⟩),.pointer (some ⟨b7,0,none⟩),u8,u9,u10,u11,u12,u13,u14,u15,u16,u17,u18,u19,u20,u21,u22,u23,u24,u25,u26,.map (some mb),.agg #[.int .u8 (h:Int),.int .u64 (k:Int)],.int .i64 d,.agg (z00 L).toArray,.agg (z00 R).toArray,X],defers:=[]} w:=fun X w hp=>by
  have hww:(fun W:World=>W.cell? ⟨b5,0,none⟩=some (.int .u8 (h:Int))/\W.cell? ⟨b5,1,none⟩=some (.int .u64 (k:Int))/\W.rangeAt b6 0 (z00 L)/\W.rangeAt b7 0 (z00 R)) w:=t1 _ _ hp
  have last:wpAnyH Tryz.prog .any z2b Q (fun W:World=>W.cell? ⟨b5,0,none⟩=some (.int .u8 (h:Int))/\W.cell? ⟨b5,1,none⟩=some (.int .u64 (k:Int))/\W.rangeAt b6 0 (z00 L)/\W.rangeAt b7 0 (z00 R)) 1 #[true,true,true,true,true,true,false] {tmps:=#[.map (some mb),.int .i64 d,u2,u3,u4,.pointer (some ⟨b5,0,none⟩),.pointer (some ⟨b6,0,none⟩),.pointer (some ⟨b7,0,none⟩),u8,u9,u10,u11,u12,u13,u14,u15,u16,u17,u18,u19,u20,u21,u22,u23,u24,u25,u26,.map (some mb),.agg #[.int .u8 (h:Int),.int .u64 (k:Int)],.int .i64 d,.agg (z00 L).toArray,.agg (z00 R).toArray,X],defers:=[]} w:=by
   obtain ⟨w',hr,hp⟩:=s1 X w hp;refine z1B (o:=⟨none,.mapUpdate 143 (.tmp 27) (.tmp 28) (.tmp 32),0,"climbed.go:30",#[⟨0,.data⟩,⟨1,.data⟩,⟨5,.data⟩,⟨5,.chain⟩,⟨0,.phase⟩,⟨1,.phase⟩,⟨2,.phase⟩,⟨3,.phase⟩,⟨4,.phase⟩,⟨5,.phase⟩],none⟩) 6 (by kernel_rfl) rfl (fun K hK=>?_);exact z0A rfl (z1k hr) (hK.out _ _ (t2 _ _ hp) (fun _=>k2 X w' hp))
  exact last
 have k0:∀ (w:World),P0 w->wpAnyH Tryz.prog .any z2b Q (fun W:World=>W.cell? ⟨b5,0,none⟩=some (.int .u8 (h:Int))/\W.cell? ⟨b5,1,none⟩=some (.int .u64 (k:Int))/\W.rangeAt b6 0 (z00 L)/\W.rangeAt b7 0 (z00 R)) 7 #[false,false,false,false,false,false,false] {tmps:=#[.map (some mb),.int .i64 d,u2,u3,u4,.pointer (some ⟨b5,0,none⟩),.pointer (some ⟨b6,0,none⟩),.pointer (some ⟨b7,0,none⟩),u8,u9,u10,u11,u12,u13,u14,u15,u16,u17,u18,u19,u20,u21,u22,u23,u24,u25,u26,u27,u28,u29,u30,u31,u32],defers:=[]} w:=fun  w hp=>by
  have hww:(fun W:World=>W.cell? ⟨b5,0,none⟩=some (.int .u8 (h:Int))/\W.cell? ⟨b5,1,none⟩=some (.int .u64 (k:Int))/\W.rangeAt b6 0 (z00 L)/\W.rangeAt b7 0 (z00 R)) w:=t0 _ hp
  have last:wpAnyH Tryz.prog .any z2b Q (fun W:World=>W.cell? ⟨b5,0,none⟩=some (.int .u8 (h:Int))/\W.cell? ⟨b5,1,none⟩=some (.int .u64 (k:Int))/\W.rangeAt b6 0 (z00 L)/\W.rangeAt b7 0 (z00 R)) 2 #[true,true,true,true,true,false,false] {tmps:=#[.map (some mb),.int .i64 d,u2,u3,u4,.pointer (some ⟨b5,0,none⟩),.pointer (some ⟨b6,0,none⟩),.pointer (some ⟨b7,0,none⟩),u8,u9,u10,u11,u12,u13,u14,u15,u16,u17,u18,u19,u20,u21,u22,u23,u24,u25,u26,.map (some mb),.agg #[.int .u8 (h:Int),.int .u64 (k:Int)],.int .i64 d,.agg (z00 L).toArray,.agg (z00 R).toArray,u32],defers:=[]} w:=by
   refine z1B (o:=⟨some 32,.call {callee:=.value (.func 39),args:=#[.tmp 29,.tmp 30,.tmp 31],argTypes:=#[3,23,23]},23,"climbed.go:30",#[⟨2,.data⟩,⟨3,.data⟩,⟨4,.data⟩],none⟩) 5 (by kernel_rfl) rfl (fun K hK=>?_);rw [if_pos (by rfl)];go_simp;refine (c1 w hp).mono ?_;rintro e w' ⟨X,rfl,hp⟩;exact hK.out _ _ (t1 _ _ hp) (fun _=>k1 X w' hp)
  have t4:wpAnyH Tryz.prog .any z2b Q (fun W:World=>W.cell? ⟨b5,0,none⟩=some (.int .u8 (h:Int))/\W.cell? ⟨b5,1,none⟩=some (.int .u64 (k:Int))/\W.rangeAt b6 0 (z00 L)/\W.rangeAt b7 0 (z00 R)) 3 #[true,true,true,true,false,false,false] {tmps:=#[.map (some mb),.int .i64 d,u2,u3,u4,.pointer (some ⟨b5,0,none⟩),.pointer (some ⟨b6,0,none⟩),.pointer (some ⟨b7,0,none⟩),u8,u9,u10,u11,u12,u13,u14,u15,u16,u17,u18,u19,u20,u21,u22,u23,u24,u25,u26,.map (some mb),.agg #[.int .u8 (h:Int),.int .u64 (k:Int)],.int .i64 d,.agg (z00 L).toArray,u31,u32],defers:=[]} w:=
   wpAnyH_take (i:=4) (oi:=⟨some 31,.load 23 (.tmp 7),23,"climbed.go:30",#[],none⟩) (v:=.agg (z00 R).toArray) rfl (by kernel_rfl) (by kernel_rfl) (by kernel_rfl) (fun _ _ _ h=>hQ _ _ _ _ _ h) (yieldsIf_load_mid (by rfl) 23 (.tmp 7) rfl b7 0 rfl (z00 R) _ (fun w h=>h.2.2.2) Tryz.underlying23 rfl (z0a hR)) hww last
  have t3:wpAnyH Tryz.prog .any z2b Q (fun W:World=>W.cell? ⟨b5,0,none⟩=some (.int .u8 (h:Int))/\W.cell? ⟨b5,1,none⟩=some (.int .u64 (k:Int))/\W.rangeAt b6 0 (z00 L)/\W.rangeAt b7 0 (z00 R)) 4 #[true,true,true,false,false,false,false] {tmps:=#[.map (some mb),.int .i64 d,u2,u3,u4,.pointer (some ⟨b5,0,none⟩),.pointer (some ⟨b6,0,none⟩),.pointer (some ⟨b7,0,none⟩),u8,u9,u10,u11,u12,u13,u14,u15,u16,u17,u18,u19,u20,u21,u22,u23,u24,u25,u26,.map (some mb),.agg #[.int .u8 (h:Int),.int .u64 (k:Int)],.int .i64 d,u30,u31,u32],defers:=[]} w:=
   wpAnyH_take (i:=3) (oi:=⟨some 30,.load 23 (.tmp 6),23,"climbed.go:30",#[],none⟩) (v:=.agg (z00 L).toArray) rfl (by kernel_rfl) (by kernel_rfl) (by kernel_rfl) (fun _ _ _ h=>hQ _ _ _ _ _ h) (yieldsIf_load_mid (by rfl) 23 (.tmp 6) rfl b6 0 rfl (z00 L) _ (fun w h=>h.2.2.1) Tryz.underlying23 rfl (z0a hL)) hww t4
  have t2:wpAnyH Tryz.prog .any z2b Q (fun W:World=>W.cell? ⟨b5,0,none⟩=some (.int .u8 (h:Int))/\W.cell? ⟨b5,1,none⟩=some (.int .u64 (k:Int))/\W.rangeAt b6 0 (z00 L)/\W.rangeAt b7 0 (z00 R)) 5 #[true,true,false,false,false,false,false] {tmps:=#[.map (some mb),.int .i64 d,u2,u3,u4,.pointer (some ⟨b5,0,none⟩),.pointer (some ⟨b6,0,none⟩),.pointer (some ⟨b7,0,none⟩),u8,u9,u10,u11,u12,u13,u14,u15,u16,u17,u18,u19,u20,u21,u22,u23,u24,u25,u26,.map (some mb),.agg #[.int .u8 (h:Int),.int .u64 (k:Int)],u29,u30,u31,u32],defers:=[]} w:=
   wpAnyH_take (i:=2) (oi:=⟨some 29,.move (.tmp 1),3,"climbed.go:30",#[],none⟩) (v:=.int .i64 d) rfl (by kernel_rfl) (by kernel_rfl) (by kernel_rfl) (fun _ _ _ h=>hQ _ _ _ _ _ h) (Yields.yieldsIf (Or.inl ⟨by rfl,fun W=>by go_simp⟩)) hww t3
  have t1:wpAnyH Tryz.prog .any z2b Q (fun W:World=>W.cell? ⟨b5,0,none⟩=some (.int .u8 (h:Int))/\W.cell? ⟨b5,1,none⟩=some (.int .u64 (k:Int))/\W.rangeAt b6 0 (z00 L)/\W.rangeAt b7 0 (z00 R)) 6 #[true,false,false,false,false,false,false] {tmps:=#[.map (some mb),.int .i64 d,u2,u3,u4,.pointer (some ⟨b5,0,none⟩),.pointer (some ⟨b6,0,none⟩),.pointer (some ⟨b7,0,none⟩),u8,u9,u10,u11,u12,u13,u14,u15,u16,u17,u18,u19,u20,u21,u22,u23,u24,u25,u26,.map (some mb),u28,u29,u30,u31,u32],defers:=[]} w:=
   wpAnyH_take (i:=1) (oi:=⟨some 28,.load 110 (.tmp 5),110,"climbed.go:30",#[],none⟩) (v:=.agg #[.int .u8 (h:Int),.int .u64 (k:Int)]) rfl (by kernel_rfl) (by kernel_rfl) (by kernel_rfl) (fun _ _ _ h=>hQ _ _ _ _ _ h) (Or.inl ⟨by rfl,fun w hw=>by have hx:=hw.1;have hy:=hw.2.1;go_simp⟩) hww t2
  have t0:wpAnyH Tryz.prog .any z2b Q (fun W:World=>W.cell? ⟨b5,0,none⟩=some (.int .u8 (h:Int))/\W.cell? ⟨b5,1,none⟩=some (.int .u64 (k:Int))/\W.rangeAt b6 0 (z00 L)/\W.rangeAt b7 0 (z00 R)) 7 #[false,false,false,false,false,false,false] {tmps:=#[.map (some mb),.int .i64 d,u2,u3,u4,.pointer (some ⟨b5,0,none⟩),.pointer (some ⟨b6,0,none⟩),.pointer (some ⟨b7,0,none⟩),u8,u9,u10,u11,u12,u13,u14,u15,u16,u17,u18,u19,u20,u21,u22,u23,u24,u25,u26,u27,u28,u29,u30,u31,u32],defers:=[]} w:=
   wpAnyH_take (i:=0) (oi:=⟨some 27,.move (.tmp 0),143,"climbed.go:30",#[],none⟩) (v:=.map (some mb)) rfl (by kernel_rfl) (by kernel_rfl) (by kernel_rfl) (fun _ _ _ h=>hQ _ _ _ _ _ h) (Yields.yieldsIf (Or.inl ⟨by rfl,fun W=>by go_simp⟩)) hww t1
  exact t0
 have hp:=h0;exact wp_region_held_drew (S:=(fun W:World=>W.cell? ⟨b5,0,none⟩=some (.int .u8 (h:Int))/\W.cell? ⟨b5,1,none⟩=some (.int .u64 (k:Int))/\W.rangeAt b6 0 (z00 L)/\W.rangeAt b7 0 (z00 R))) (by kernel_rfl) (t0 _ hp) (fun _=>k0 _ hp)
def z2c:Array Oper:=#[⟨some 25,.move (.tmp 0),3,"grow.go:30",#[],none⟩,⟨some 26,.move (.tmp 1),42,"grow.go:30",#[],none⟩,⟨some 27,.move (.tmp 7),3,"grow.go:30",#[],none⟩,⟨some 28,.indexAddr 42 (.tmp 26) (.tmp 27),0,"grow.go:30",#[⟨1,.data⟩,⟨2,.data⟩],none⟩,⟨some 29,.load 23 (.tmp 28),23,"grow.go:30",#[⟨3,.data⟩],none⟩,⟨some 30,.load 23 (.tmp 6),23,"grow.go:30",#[],none⟩,⟨some 31,.call {callee:=.value (.func 158),args:=#[.tmp 25,.tmp 29,.tmp 30],argTypes:=#[3,23,23]},23,"grow.go:30",#[⟨0,.data⟩,⟨4,.data⟩,⟨5,.data⟩],none⟩,⟨none,.store 23 (.tmp 6) (.tmp 31),0,"grow.go:30",#[⟨6,.data⟩,⟨6,.chain⟩,⟨0,.phase⟩,⟨1,.phase⟩,⟨2,.phase⟩,⟨3,.phase⟩,⟨4,.phase⟩,⟨5,.phase⟩,⟨6,.phase⟩],none⟩]
theorem z7R {Q:Exit->Act->World->Prop} (u2 u3 u4 u5 u8 u9 u10 u11 u12 u13 u14 u15 u16 u17 u18 u19 u20 u21 u22 u23 u24 u25 u26 u27 u28 u29 u30 u31 u32:Value) (W:World) (b6 gn o n c i:Nat) (d:Int) (L R Y:List Int) (hL:L.length=32) (hR:R.length=32) (hY:Y.length=32) (b1:(i:Int)<(n:Int)) (hLr:W.drew.rangeAt gn (o+i*32) (z00 L)) (hRr:W.drew.rangeAt b6 0 (z00 R)) (T:World->Prop) (cF:Calls Tryz.prog 158 #[.int .i64 d,.agg (z00 L).toArray,.agg (z00 R).toArray] W.drew fun e w'=>∃ X,e=.returned X/\(X=.agg (z00 Y).toArray/\Has w' b6 (z00 R).toArray 23/\T w')) (hQ:∀ c (a:Act) (t:Tmp) (v:Value) w,Q (.panic c) (a.put (some t) v) w->Q (.panic c) a w)
  (h:∀ (X:Value) (w':World),(X=.agg (z00 Y).toArray/\Has w' b6 (z00 R).toArray 23/\T w')->Q .normal {tmps:=#[.int .i64 d,.slice (some ⟨gn,o,none⟩) n c,u2,u3,u4,u5,.pointer (some ⟨b6,0,none⟩),.int .i64 (i:Int),u8,u9,u10,u11,u12,u13,u14,u15,u16,u17,u18,u19,u20,u21,u22,u23,u24,.int .i64 d,.slice (some ⟨gn,o,none⟩) n c,.int .i64 (i:Int),.pointer (some ⟨gn,o+i*32,none⟩),.agg (z00 L).toArray,.agg (z00 R).toArray,X,u32],defers:=[]} (World.setRow w' b6 (z00 Y).toArray)):(Code.region 8 z2c true).wp Tryz.prog Q {tmps:=#[.int .i64 d,.slice (some ⟨gn,o,none⟩) n c,u2,u3,u4,u5,.pointer (some ⟨b6,0,none⟩),.int .i64 (i:Int),u8,u9,u10,u11,u12,u13,u14,u15,u16,u17,u18,u19,u20,u21,u22,u23,u24,u25,u26,u27,u28,u29,u30,u31,u32],defers:=[]} W:=by
 have kX:∀ (X:Value) (w':World),(X=.agg (z00 Y).toArray/\Has w' b6 (z00 R).toArray 23/\T w')->wpAny Tryz.prog .any z2c Q 1 #[true,true,true,true,true,true,true,false] {tmps:=#[.int .i64 d,.slice (some ⟨gn,o,none⟩) n c,u2,u3,u4,u5,.pointer (some ⟨b6,0,none⟩),.int .i64 (i:Int),u8,u9,u10,u11,u12,u13,u14,u15,u16,u17,u18,u19,u20,u21,u22,u23,u24,.int .i64 d,.slice (some ⟨gn,o,none⟩) n c,.int .i64 (i:Int),.pointer (some ⟨gn,o+i*32,none⟩),.agg (z00 L).toArray,.agg (z00 R).toArray,X,u32],defers:=[]} w':=fun X w' hX=>by
  have z:wpAny Tryz.prog .any z2c Q 0 #[true,true,true,true,true,true,true,true] {tmps:=#[.int .i64 d,.slice (some ⟨gn,o,none⟩) n c,u2,u3,u4,u5,.pointer (some ⟨b6,0,none⟩),.int .i64 (i:Int),u8,u9,u10,u11,u12,u13,u14,u15,u16,u17,u18,u19,u20,u21,u22,u23,u24,.int .i64 d,.slice (some ⟨gn,o,none⟩) n c,.int .i64 (i:Int),.pointer (some ⟨gn,o+i*32,none⟩),.agg (z00 L).toArray,.agg (z00 R).toArray,X,u32],defers:=[]} (World.setRow w' b6 (z00 Y).toArray):=wpAny_done (by kernel_rfl) (h X w' hX) _
  have z7:wpAny Tryz.prog .any z2c Q 1 #[true,true,true,true,true,true,true,false] {tmps:=#[.int .i64 d,.slice (some ⟨gn,o,none⟩) n c,u2,u3,u4,u5,.pointer (some ⟨b6,0,none⟩),.int .i64 (i:Int),u8,u9,u10,u11,u12,u13,u14,u15,u16,u17,u18,u19,u20,u21,u22,u23,u24,.int .i64 d,.slice (some ⟨gn,o,none⟩) n c,.int .i64 (i:Int),.pointer (some ⟨gn,o+i*32,none⟩),.agg (z00 L).toArray,.agg (z00 R).toArray,X,u32],defers:=[]} w':=by
   refine wpAny_ready (rs:=[7]) (by kernel_rfl) (by simp) ?_;exact AllReady.cons (o:=⟨none,.store 23 (.tmp 6) (.tmp 31),0,"grow.go:30",#[⟨6,.data⟩,⟨6,.chain⟩,⟨0,.phase⟩,⟨1,.phase⟩,⟨2,.phase⟩,⟨3,.phase⟩,⟨4,.phase⟩,⟨5,.phase⟩,⟨6,.phase⟩],none⟩) rfl (fun K hK=>z0A rfl (z1k (by obtain ⟨rfl,hb,_⟩:=hX;exact z9z hb hR hY)) (hK _ _ z)) AllReady.nil
  exact z7
 have s4_5:wpAny Tryz.prog .any z2c Q 2 #[true,true,true,true,true,true,false,false] {tmps:=#[.int .i64 d,.slice (some ⟨gn,o,none⟩) n c,u2,u3,u4,u5,.pointer (some ⟨b6,0,none⟩),.int .i64 (i:Int),u8,u9,u10,u11,u12,u13,u14,u15,u16,u17,u18,u19,u20,u21,u22,u23,u24,.int .i64 d,.slice (some ⟨gn,o,none⟩) n c,.int .i64 (i:Int),.pointer (some ⟨gn,o+i*32,none⟩),.agg (z00 L).toArray,.agg (z00 R).toArray,u31,u32],defers:=[]} W.drew:=by
  refine wpAny_ready (rs:=[6]) (by kernel_rfl) (by simp) ?_;refine AllReady.cons (o:=⟨some 31,.call {callee:=.value (.func 158),args:=#[.tmp 25,.tmp 29,.tmp 30],argTypes:=#[3,23,23]},23,"grow.go:30",#[⟨0,.data⟩,⟨4,.data⟩,⟨5,.data⟩],none⟩) rfl (fun K hK=>?_) ?_
  ·rw [if_pos (by rfl)]
   go_simp;refine (cF).mono ?_;rintro e w' ⟨X,rfl,hX⟩;exact hK _ _ (kX X w' hX)
  exact AllReady.nil
 have s5:wpAny Tryz.prog .any z2c Q 3 #[true,true,true,true,false,true,false,false] {tmps:=#[.int .i64 d,.slice (some ⟨gn,o,none⟩) n c,u2,u3,u4,u5,.pointer (some ⟨b6,0,none⟩),.int .i64 (i:Int),u8,u9,u10,u11,u12,u13,u14,u15,u16,u17,u18,u19,u20,u21,u22,u23,u24,.int .i64 d,.slice (some ⟨gn,o,none⟩) n c,.int .i64 (i:Int),.pointer (some ⟨gn,o+i*32,none⟩),u29,.agg (z00 R).toArray,u31,u32],defers:=[]} W.drew:=by
  refine wpAny_ready (rs:=[4]) (by kernel_rfl) (by simp) ?_;refine AllReady.cons (o:=⟨some 29,.load 23 (.tmp 28),23,"grow.go:30",#[⟨3,.data⟩],none⟩) rfl (fun K hK=>z06 (v:=.agg (z00 L).toArray) rfl (z08 (run_loadAt_mid (P:=Tryz.prog) _ gn (o+i*32) 23 _ _ hLr Tryz.underlying23 rfl (z0a hL))) (hK _ _ s4_5)) ?_;exact AllReady.nil
 have s4:wpAny Tryz.prog .any z2c Q 3 #[true,true,true,true,true,false,false,false] {tmps:=#[.int .i64 d,.slice (some ⟨gn,o,none⟩) n c,u2,u3,u4,u5,.pointer (some ⟨b6,0,none⟩),.int .i64 (i:Int),u8,u9,u10,u11,u12,u13,u14,u15,u16,u17,u18,u19,u20,u21,u22,u23,u24,.int .i64 d,.slice (some ⟨gn,o,none⟩) n c,.int .i64 (i:Int),.pointer (some ⟨gn,o+i*32,none⟩),.agg (z00 L).toArray,u30,u31,u32],defers:=[]} W.drew:=by
  refine wpAny_ready (rs:=[5]) (by kernel_rfl) (by simp) ?_;refine AllReady.cons (o:=⟨some 30,.load 23 (.tmp 6),23,"grow.go:30",#[],none⟩) rfl (fun K hK=>z06 (v:=.agg (z00 R).toArray) rfl (z08 (run_loadAt_mid (P:=Tryz.prog) _ b6 0 23 _ _ hRr Tryz.underlying23 rfl (z0a hR))) (hK _ _ s4_5)) ?_;exact AllReady.nil
 have s:wpAny Tryz.prog .any z2c Q 4 #[true,true,true,true,false,false,false,false] {tmps:=#[.int .i64 d,.slice (some ⟨gn,o,none⟩) n c,u2,u3,u4,u5,.pointer (some ⟨b6,0,none⟩),.int .i64 (i:Int),u8,u9,u10,u11,u12,u13,u14,u15,u16,u17,u18,u19,u20,u21,u22,u23,u24,.int .i64 d,.slice (some ⟨gn,o,none⟩) n c,.int .i64 (i:Int),.pointer (some ⟨gn,o+i*32,none⟩),u29,u30,u31,u32],defers:=[]} W.drew:=by
  refine wpAny_ready (rs:=[4,5]) (by kernel_rfl) (by simp) ?_;refine AllReady.cons (o:=⟨some 29,.load 23 (.tmp 28),23,"grow.go:30",#[⟨3,.data⟩],none⟩) rfl (fun K hK=>z06 (v:=.agg (z00 L).toArray) rfl (z08 (run_loadAt_mid (P:=Tryz.prog) _ gn (o+i*32) 23 _ _ hLr Tryz.underlying23 rfl (z0a hL))) (hK _ _ s4)) ?_;refine AllReady.cons (o:=⟨some 30,.load 23 (.tmp 6),23,"grow.go:30",#[],none⟩) rfl (fun K hK=>z06 (v:=.agg (z00 R).toArray) rfl (z08 (run_loadAt_mid (P:=Tryz.prog) _ b6 0 23 _ _ hRr Tryz.underlying23 rfl (z0a hR))) (hK _ _ s5)) ?_;exact AllReady.nil
 have t3:wpAny Tryz.prog .any z2c Q 5 #[true,true,true,false,false,false,false,false] {tmps:=#[.int .i64 d,.slice (some ⟨gn,o,none⟩) n c,u2,u3,u4,u5,.pointer (some ⟨b6,0,none⟩),.int .i64 (i:Int),u8,u9,u10,u11,u12,u13,u14,u15,u16,u17,u18,u19,u20,u21,u22,u23,u24,.int .i64 d,.slice (some ⟨gn,o,none⟩) n c,.int .i64 (i:Int),u28,u29,u30,u31,u32],defers:=[]} W.drew:=
  wpAny_take (i:=3) (oi:=⟨some 28,.indexAddr 42 (.tmp 26) (.tmp 27),0,"grow.go:30",#[⟨1,.data⟩,⟨2,.data⟩],none⟩) (v:=.pointer (some ⟨gn,o+i*32,none⟩)) rfl (by kernel_rfl) (by kernel_rfl) (by kernel_rfl) (fun _ _ _ h=>hQ _ _ _ _ _ h) (Or.inl ⟨by rfl,fun W=>by go_simp⟩) s
 have t2:wpAny Tryz.prog .any z2c Q 6 #[true,true,false,false,false,false,false,false] {tmps:=#[.int .i64 d,.slice (some ⟨gn,o,none⟩) n c,u2,u3,u4,u5,.pointer (some ⟨b6,0,none⟩),.int .i64 (i:Int),u8,u9,u10,u11,u12,u13,u14,u15,u16,u17,u18,u19,u20,u21,u22,u23,u24,.int .i64 d,.slice (some ⟨gn,o,none⟩) n c,u27,u28,u29,u30,u31,u32],defers:=[]} W.drew:=
  wpAny_take (i:=2) (oi:=⟨some 27,.move (.tmp 7),3,"grow.go:30",#[],none⟩) (v:=.int .i64 (i:Int)) rfl (by kernel_rfl) (by kernel_rfl) (by kernel_rfl) (fun _ _ _ h=>hQ _ _ _ _ _ h) (Or.inl ⟨by rfl,fun W=>by go_simp⟩) t3
 have t1:wpAny Tryz.prog .any z2c Q 7 #[true,false,false,false,false,false,false,false] {tmps:=#[.int .i64 d,.slice (some ⟨gn,o,none⟩) n c,u2,u3,u4,u5,.pointer (some ⟨b6,0,none⟩),.int .i64 (i:Int),u8,u9,u10,u11,u12,u13,u14,u15,u16,u17,u18,u19,u20,u21,u22,u23,u24,.int .i64 d,u26,u27,u28,u29,u30,u31,u32],defers:=[]} W.drew:=
  wpAny_take (i:=1) (oi:=⟨some 26,.move (.tmp 1),42,"grow.go:30",#[],none⟩) (v:=.slice (some ⟨gn,o,none⟩) n c) rfl (by kernel_rfl) (by kernel_rfl) (by kernel_rfl) (fun _ _ _ h=>hQ _ _ _ _ _ h) (Or.inl ⟨by rfl,fun W=>by go_simp⟩) t2
 have t0:wpAny Tryz.prog .any z2c Q 8 #[false,false,false,false,false,false,false,false] {tmps:=#[.int .i64 d,.slice (some ⟨gn,o,none⟩) n c,u2,u3,u4,u5,.pointer (some ⟨b6,0,none⟩),.int .i64 (i:Int),u8,u9,u10,u11,u12,u13,u14,u15,u16,u17,u18,u19,u20,u21,u22,u23,u24,u25,u26,u27,u28,u29,u30,u31,u32],defers:=[]} W.drew:=
  wpAny_take (i:=0) (oi:=⟨some 25,.move (.tmp 0),3,"grow.go:30",#[],none⟩) (v:=.int .i64 d) rfl (by kernel_rfl) (by kernel_rfl) (by kernel_rfl) (fun _ _ _ h=>hQ _ _ _ _ _ h) (Or.inl ⟨by rfl,fun W=>by go_simp⟩) t1
 refine wp_region_any (by kernel_rfl) ?_;exact t0
end Go.Proofs.YtnimaaflmdoaaaaGreatDoor
namespace Go.Proofs.YtnimaaflmdoaaaaGreatDoor.HX
open Go.RowKit
def ROTR (n x:Nat):Nat:=x / 2 ^ n+x % 2 ^ n*2 ^ (32 - n)
theorem z1X {n x:Nat} (hn:n<=32) (hx:x<2 ^ 32):ROTR n x<2 ^ 32:=by
 unfold ROTR;have h1:(2:Nat) ^ 32=2 ^ n*2 ^ (32 - n):=by rw [<-Nat.pow_add];congr 1;omega
 have h2:x / 2 ^ n<2 ^ (32 - n):=by
  apply Nat.div_lt_of_lt_mul;rw [<-h1];exact hx
 have h3:x % 2 ^ n+1<=2 ^ n:=Nat.mod_lt _ (Nat.two_pow_pos n);have h4:=Nat.mul_le_mul_right (2 ^ (32 - n)) h3;rw [Nat.add_mul,Nat.one_mul,<-h1] at h4;omega
theorem zh2 {n x:Nat} (hn:n<=32) (hx:x<2 ^ 32):x*2 ^ (32 - n) % 2 ^ 32 ||| x / 2 ^ n=ROTR n x:=by
 have h1:(2:Nat) ^ 32=2 ^ n*2 ^ (32 - n):=by rw [<-Nat.pow_add];congr 1;omega
 have h2:x / 2 ^ n<2 ^ (32 - n):=by
  apply Nat.div_lt_of_lt_mul;rw [<-h1];exact hx
 have h3:x*2 ^ (32 - n) % 2 ^ 32=x % 2 ^ n*2 ^ (32 - n):=by
  rw [h1,Nat.mul_mod_mul_right]
 rw [h3,nat_join (32 - n) _ _ (Nat.mul_mod_left _ _) h2];unfold ROTR;omega
def MIX (i j k x:Nat):Nat:=ROTR i x ^^^ ROTR j x ^^^ ROTR k x
def z1Y (i j k x:Nat):Nat:=ROTR i x ^^^ ROTR j x ^^^ x / 2 ^ k
def CHO (x y z:Nat):Nat:=(x &&& y) ^^^ ((4294967295 - x) &&& z)
def MAJ (x y z:Nat):Nat:=(x &&& y) ^^^ (x &&& z) ^^^ (y &&& z)
def z0d (s:Nat->Nat) (o:Nat):Nat:=s o*16777216+s (o+1)*65536+s (o+2)*256+s (o+3)
theorem z1r {s:Nat->Nat} (o:Nat) (h:∀ i,s i<256):z0d s o<2 ^ 32:=by
 have h0:=h o;have h1:=h (o+1);have h2:=h (o+2);have h3:=h (o+3);unfold z0d;omega
def SCHL (b:Nat->Nat):Nat->Nat->Nat
 | 0,t=>if t<16 then z0d b (4*t) else 0
 | k+1,t=>if t=16+k then (z1Y 17 19 10 (SCHL b k (14+k))+SCHL b k (9+k)+z1Y 7 18 3 (SCHL b k (1+k))+SCHL b k k) % 4294967296 else SCHL b k t
def SCH (b:Nat->Nat):Nat->Nat:=SCHL b 48
theorem z6P {b:Nat->Nat} (h:∀ i,b i<256):∀ k t,SCHL b k t<2 ^ 32
 | 0,t=>by
   unfold SCHL;split
   ·exact z1r _ h
   ·decide
 | k+1,t=>by
   unfold SCHL;split
   ·exact Nat.mod_lt _ (by decide)
   ·exact z6P h k t
theorem z32 (b:Nat->Nat) (k:Nat):∀ m t,t<16+k->SCHL b (k+m) t=SCHL b k t
 | 0,_,_=>rfl
 | m+1,t,h=>by
   show SCHL b (k+m+1) t=_;rw [SCHL,if_neg (by omega)];exact z32 b k m t h
theorem zd6 (b:Nat->Nat) (t:Nat) (h:t<16):SCH b t=z0d b (4*t):=by
 have:=z32 b 0 48 t (by omega);rw [Nat.zero_add] at this;show SCHL b 48 t=_;rw [this,SCHL,if_pos h]
theorem zeU (b:Nat->Nat) (k:Nat) (h:k<48):SCH b (16+k)=(z1Y 17 19 10 (SCH b (14+k))+SCH b (9+k)+z1Y 7 18 3 (SCH b (1+k))+SCH b k) % 4294967296:=by
 have e:∀ t,t<16+k->SCH b t=SCHL b k t:=fun t ht=>by
  have:=z32 b k (48 - k) t ht;rw [show k+(48 - k)=48 by omega] at this;exact this
 have e1:SCH b (16+k)=SCHL b (k+1) (16+k):=by
  have:=z32 b (k+1) (48 - (k+1)) (16+k) (by omega);rw [show k+1+(48 - (k+1))=48 by omega] at this;exact this
 rw [e1,SCHL,if_pos rfl,e _ (by omega),e _ (by omega),e _ (by omega),e _ (by omega)]
def KLIST:List Nat:=[1116352408,1899447441,3049323471,3921009573,961987163,1508970993,2453635748,2870763221,3624381080,310598401,607225278,1426881987,1925078388,2162078206,2614888103,3248222580,3835390401,4022224774,264347078,604807628,770255983,1249150122,1555081692,1996064986,2554220882,2821834349,2952996808,3210313671,3336571891,3584528711,113926993,338241895,666307205,773529912,1294757372,1396182291,1695183700,1986661051,2177026350,2456956037,2730485921,2820302411,3259730800,3345764771,3516065817,3600352804,4094571909,275423344,430227734,506948616,659060556,883997877,958139571,1322822218,1537002063,1747873779,1955562222,2024104815,2227730452,2361852424,2428436474,2756734187,3204031479,3329325298]
def KC (t:Nat):Nat:=KLIST.getD t 0
structure ST where
 a:Nat
 b:Nat
 c:Nat
 d:Nat
 e:Nat
 f:Nat
 g:Nat
 h:Nat
def T1 (k x:Nat) (s:ST):Nat:=(s.h+MIX 6 11 25 s.e+CHO s.e s.f s.g+k+x) % 4294967296
def T2 (s:ST):Nat:=(MIX 2 13 22 s.a+MAJ s.a s.b s.c) % 4294967296
def RND (k x:Nat) (s:ST):ST:={a:=(T1 k x s+T2 s) % 4294967296,b:=s.a,c:=s.b,d:=s.c,e:=(s.d+T1 k x s) % 4294967296,f:=s.e,g:=s.f,h:=s.g}
def Small (s:ST):Prop:=s.a<2 ^ 32/\s.b<2 ^ 32/\s.c<2 ^ 32/\s.d<2 ^ 32/\s.e<2 ^ 32/\s.f<2 ^ 32/\s.g<2 ^ 32/\s.h<2 ^ 32
theorem Small.rnd {s:ST} (h:Small s) (k x:Nat):Small (RND k x s):=by
 obtain ⟨h1,h2,h3,h4,h5,h6,h7,h8⟩:=h;exact ⟨Nat.mod_lt _ (by decide),h1,h2,h3,Nat.mod_lt _ (by decide),h5,h6,h7⟩
def RUN (x:Nat->Nat) (s:ST):Nat->ST
 | 0=>s
 | t+1=>RND (KC t) (x t) (RUN x s t)
theorem z7k (x:Nat->Nat) {s:ST} (h:Small s):∀ t,Small (RUN x s t)
 | 0=>h
 | t+1=>(z7k x h t).rnd _ _
def STOF (s:Nat->Nat):ST:={a:=z0d s 0,b:=z0d s 4,c:=z0d s 8,d:=z0d s 12,e:=z0d s 16,f:=z0d s 20,g:=z0d s 24,h:=z0d s 28}
theorem zbs {s:Nat->Nat} (h:∀ i,s i<256):Small (STOF s):=
 ⟨z1r _ h,z1r _ h,z1r _ h,z1r _ h,z1r _ h,z1r _ h,z1r _ h,z1r _ h⟩
def ST.at (s:ST):Nat->Nat
 | 0=>s.a
 | 1=>s.b
 | 2=>s.c
 | 3=>s.d
 | 4=>s.e
 | 5=>s.f
 | 6=>s.g
 | 7=>s.h
 | _=>0
def OUTW (s b:Nat->Nat) (i:Nat):Nat:=(z0d s (4*i)+(RUN (SCH b) (STOF s) 64).at i) % 4294967296
def z0s (x:Nat->Nat) (i:Nat):Nat:=x (i / 4) / 2 ^ (24 - 8*(i % 4)) % 256
def WID (w:Int):Nat:=(min (max w 1) 32).toNat
def z0O (w:Int) (s:Nat->Nat) (i:Nat):Nat:=if i<WID w then s i else 0
def COMP (w:Int) (s b:Nat->Nat):Nat->Nat:=z0O w (z0s (OUTW s b))
theorem z8t (x:Nat->Nat) (i:Nat):z0s x i<256:=Nat.mod_lt _ (by decide)
theorem z7l {w:Int} {s:Nat->Nat} (h:∀ i,s i<256) (i:Nat):z0O w s i<256:=by
 unfold z0O;split
 ·exact h i
 ·decide
theorem zg9 (w:Int) (s b:Nat->Nat) (i:Nat):COMP w s b i<256:=z7l (z8t _) i
theorem z57 (z:Int):IntKind.u32.wrap z=z % 2 ^ 32:=by rw [IntKind.wrap_u32];rfl
theorem z3w {a b:Nat} (ha:a<2 ^ 32) (hb:b<2 ^ 32):bits .xor .u32 (a:Int) (b:Int)=((a ^^^ b:Nat):Int):=u32_xor_nat a b ha hb
theorem z61 {a b:Nat} (ha:a<2 ^ 32) (hb:b<2 ^ 32):bits .and .u32 (a:Int) (b:Int)=((a &&& b:Nat):Int):=u32_and_nat a b ha hb
theorem or32 {a b:Nat} (ha:a<2 ^ 32) (hb:b<2 ^ 32):bits .or .u32 (a:Int) (b:Int)=((a ||| b:Nat):Int):=u32_or_nat a b ha hb
theorem zeV (x n s a b r:Int) (w:World) (hs:bits .and .u64 (IntKind.u64.wrap n) 31=s) (h0:0<=s) (h1:0<=IntKind.u64.wrap (32 - s)) (ha:IntKind.u32.wrap (x*2 ^ min s.toNat 32)=a) (hb:x / 2 ^ min (IntKind.u64.wrap (32 - s)).toNat 32=b) (hr:bits .or .u32 a b=r):
  Calls Tryz.prog 188 #[.int .u32 x,.int .i64 n] w fun e w'=>e=.returned (.int .u32 r)/\w=w':=by
 go_enter Tryz.func188,Tryz.ntmps188;go_wp2;go_ret;exact ⟨rfl,rfl⟩
theorem zhw (n:Nat) (h1:1<=n) (h2:n<32):bits .and .u64 (IntKind.u64.wrap (wrap64 (-(n:Int)))) 31=((32 - n:Nat):Int):=by
 have e:IntKind.u64.wrap (wrap64 (-(n:Int)))=((18446744073709551616 - n:Nat):Int):=by
  rw [z0k];unfold wrap64;omega
 have f:(31:Int)=((31:Nat):Int):=rfl;rw [e,f,z4E (by omega) (by decide)];congr 1
 have:(31:Nat)=2 ^ 5 - 1:=rfl;rw [this,Nat.and_two_pow_sub_one_eq_mod];omega
theorem zga (X n:Nat) (hX:X<2 ^ 32) (h1:1<=n) (h2:n<32) (w:World):Calls Tryz.prog 188 #[.int .u32 (X:Int),.int .i64 (wrap64 (-(n:Int)))] w fun e w'=>e=.returned (.int .u32 ((ROTR n X:Nat):Int))/\w=w':=by
 have e:IntKind.u64.wrap (32 - ((32 - n:Nat):Int))=(n:Int):=by rw [z0k];omega
 refine zeV X _ ((32 - n:Nat):Int) ((X*2 ^ (32 - n) % 2 ^ 32:Nat):Int) ((X / 2 ^ n:Nat):Int) _ w (zhw n h1 h2) (by omega) (by rw [e];omega) ?_ ?_ ?_
 ·rw [Int.toNat_natCast,show min (32 - n) 32=32 - n by omega,z57]
  simp
 ·rw [e,Int.toNat_natCast,show min n 32=n by omega,z2h]
 ·rw [or32 (Nat.mod_lt _ (by decide)) (Nat.lt_of_le_of_lt (Nat.div_le_self _ _) hX),zh2 (by omega) hX]
theorem z4I (x n r:Int) (w:World) (c:∀ w,Calls Tryz.prog 188 #[.int .u32 x,.int .i64 (wrap64 (-n))] w fun e w'=>e=.returned (.int .u32 r)/\w=w'):
  Calls Tryz.prog 173 #[.int .u32 x,.int .i64 n] w fun e w'=>e=.returned (.int .u32 r)/\w=w':=by
 go_enter Tryz.func173,Tryz.ntmps173;go_wp2_with fail
 refine (c _).mono ?_;rintro e w' ⟨rfl,rfl⟩;go_wp2;go_ret;exact ⟨rfl,rfl⟩
theorem right_ok (X n:Nat) (hX:X<2 ^ 32) (h1:1<=n) (h2:n<32) (w:World):Calls Tryz.prog 173 #[.int .u32 (X:Int),.int .i64 (n:Int)] w fun e w'=>e=.returned (.int .u32 ((ROTR n X:Nat):Int))/\w=w':=
 z4I X n _ w (fun w=>zga X n hX h1 h2 w)
theorem zgb (x i j k a b c p r:Int) (w:World) (e1:bits .xor .u32 a b=p) (e2:bits .xor .u32 p c=r)
  (ca:∀ w,Calls Tryz.prog 173 #[.int .u32 x,.int .i64 i] w fun e w'=>e=.returned (.int .u32 a)/\w=w')
  (cb:∀ w,Calls Tryz.prog 173 #[.int .u32 x,.int .i64 j] w fun e w'=>e=.returned (.int .u32 b)/\w=w')
  (cc:∀ w,Calls Tryz.prog 173 #[.int .u32 x,.int .i64 k] w fun e w'=>e=.returned (.int .u32 c)/\w=w'):
  Calls Tryz.prog 143 #[.int .u32 x,.int .i64 i,.int .i64 j,.int .i64 k] w fun e w'=>e=.returned (.int .u32 r)/\w=w':=by
 go_enter Tryz.func143,Tryz.ntmps143;go_wp2_with fail
 refine (ca _).mono ?_;rintro e w' ⟨rfl,rfl⟩;clear ca;go_wp2_with fail
 refine (cb _).mono ?_;rintro e w' ⟨rfl,rfl⟩;clear cb;go_wp2_with fail
 refine (cc _).mono ?_;rintro e w' ⟨rfl,rfl⟩;clear cc;go_wp2;go_ret;exact ⟨rfl,rfl⟩
theorem zd7 (X i j k:Nat) (hX:X<2 ^ 32) (hi:1<=i/\i<32) (hj:1<=j/\j<32) (hk:1<=k/\k<32) (w:World):Calls Tryz.prog 143 #[.int .u32 (X:Int),.int .i64 (i:Int),.int .i64 (j:Int),.int .i64 (k:Int)] w fun e w'=>e=.returned (.int .u32 ((MIX i j k X:Nat):Int))/\w=w':=
 zgb X i j k _ _ _ _ _ w (z3w (z1X (by omega) hX) (z1X (by omega) hX)) (z3w (Nat.xor_lt_two_pow (z1X (by omega) hX) (z1X (by omega) hX)) (z1X (by omega) hX)) (fun w=>right_ok X i hX hi.1 hi.2 w) (fun w=>right_ok X j hX hj.1 hj.2 w) (fun w=>right_ok X k hX hk.1 hk.2 w)
theorem zeW {X:Nat} (hX:X<2 ^ 32):4294967295 ^^^ X=4294967295 - X:=by
 apply Nat.eq_of_testBit_eq;intro i;have e:(4294967295:Nat)=2 ^ 32 - 1:=rfl;have e2:4294967295 - X=2 ^ 32 - (X+1):=by omega
 rw [e2,Nat.testBit_two_pow_sub_succ hX,Nat.testBit_xor,e,Nat.testBit_two_pow_sub_one];by_cases h:i<32
 ·simp [h]
 ·have:X.testBit i=false:=Nat.testBit_lt_two_pow (Nat.lt_of_lt_of_le hX (Nat.pow_le_pow_right (by decide) (by omega)))
  simp [h,this]
theorem zhx {X:Nat} (hX:X<2 ^ 32):bits .xor .u32 IntKind.u32.max (X:Int)=((4294967295 - X:Nat):Int):=by
 rw [<-zeW hX];exact z3w (a:=4294967295) (by decide) hX
theorem zbt (x y z p q s r:Int) (w:World) (e1:bits .and .u32 x y=p) (e2:bits .xor .u32 IntKind.u32.max x=q) (e3:bits .and .u32 q z=s) (e4:bits .xor .u32 p s=r):
  Calls Tryz.prog 144 #[.int .u32 x,.int .u32 y,.int .u32 z] w fun e w'=>e=.returned (.int .u32 r)/\w=w':=by
 go_enter Tryz.func144,Tryz.ntmps144;go_wp2;go_ret;exact ⟨rfl,rfl⟩
theorem zd8 (X Y Z:Nat) (hX:X<2 ^ 32) (hY:Y<2 ^ 32) (hZ:Z<2 ^ 32) (w:World):Calls Tryz.prog 144 #[.int .u32 (X:Int),.int .u32 (Y:Int),.int .u32 (Z:Int)] w fun e w'=>e=.returned (.int .u32 ((CHO X Y Z:Nat):Int))/\w=w':=
 zbt X Y Z _ ((4294967295 - X:Nat):Int) _ _ w (z61 hX hY) (zhx hX) (z61 (by omega) hZ) (z3w (Nat.lt_of_le_of_lt Nat.and_le_left hX) (Nat.lt_of_le_of_lt Nat.and_le_right hZ))
theorem z8u (x y z p q s t r:Int) (w:World) (e1:bits .and .u32 x y=p) (e2:bits .and .u32 x z=q) (e3:bits .xor .u32 p q=s) (e4:bits .and .u32 y z=t) (e5:bits .xor .u32 s t=r):
  Calls Tryz.prog 145 #[.int .u32 x,.int .u32 y,.int .u32 z] w fun e w'=>e=.returned (.int .u32 r)/\w=w':=by
 go_enter Tryz.func145,Tryz.ntmps145;go_wp2;go_ret;exact ⟨rfl,rfl⟩
theorem z9B (X Y Z:Nat) (hX:X<2 ^ 32) (hY:Y<2 ^ 32) (hZ:Z<2 ^ 32) (w:World):Calls Tryz.prog 145 #[.int .u32 (X:Int),.int .u32 (Y:Int),.int .u32 (Z:Int)] w fun e w'=>e=.returned (.int .u32 ((MAJ X Y Z:Nat):Int))/\w=w':=
 z8u X Y Z _ _ _ _ _ w (z61 hX hY) (z61 hX hZ) (z3w (Nat.lt_of_le_of_lt Nat.and_le_left hX) (Nat.lt_of_le_of_lt Nat.and_le_left hX)) (z61 hY hZ) (z3w (Nat.xor_lt_two_pow (Nat.lt_of_le_of_lt Nat.and_le_left hX) (Nat.lt_of_le_of_lt Nat.and_le_left hX)) (Nat.lt_of_le_of_lt Nat.and_le_left hY))
theorem z45 {P:Program} {f:FuncId} {args:Array Value} {w:World} {n:Nat} {v:Value}
  (h:Calls P f args (w.drewN n) fun e w'=>e=.returned v/\w.drewN n=w'):Calls P f args (w.drewN n) fun e w''=>e=.returned v/\∃ m,w''=w.drewN m:=
 h.mono fun _ _ ⟨he,hm⟩=>⟨he,n,hm.symm⟩
theorem zd9 (x i j k c p r:Int) (R:Int->Int) (w:World) (hi:1<=i/\i<32) (hj:1<=j/\j<32) (hk:0<=k) (e1:bits .xor .u32 (R i) (R j)=p) (e2:bits .xor .u32 p c=r) (e3:x / 2 ^ min k.toNat 32=c)
  (ca:∀ n:Int,1<=n/\n<32->∀ w,Calls Tryz.prog 173 #[.int .u32 x,.int .i64 n] w fun e w'=>e=.returned (.int .u32 (R n))/\w=w'):
  Calls Tryz.prog 172 #[.int .u32 x,.int .i64 i,.int .i64 j,.int .i64 k] w fun e w'=>e=.returned (.int .u32 r)/\∃ m,w'=w.drewN m:=by
 go_enter Tryz.func172,Tryz.ntmps172;go_wp2;go_quiet ((go_at_call 173;exact z45 (ca _ (by assumption) _)))
 go_wp2;go_ret;exact ⟨rfl,_,rfl⟩
theorem z8v (X i j k:Nat) (hX:X<2 ^ 32) (hi:1<=i/\i<32) (hj:1<=j/\j<32) (hk:k<32) (w:World):Calls Tryz.prog 172 #[.int .u32 (X:Int),.int .i64 (i:Int),.int .i64 (j:Int),.int .i64 (k:Int)] w fun e w'=>e=.returned (.int .u32 ((z1Y i j k X:Nat):Int))/\∃ m,w'=w.drewN m:=by
 refine zd9 X i j k ((X / 2 ^ k:Nat):Int) ((ROTR i X ^^^ ROTR j X:Nat):Int) _ (fun n=>((ROTR n.toNat X:Nat):Int)) w (by omega) (by omega) (by omega) ?_ ?_ ?_ ?_
 ·simp only [Int.toNat_natCast]
  exact z3w (z1X (by omega) hX) (z1X (by omega) hX)
 ·exact z3w (Nat.xor_lt_two_pow (z1X (by omega) hX) (z1X (by omega) hX)) (Nat.lt_of_le_of_lt (Nat.div_le_self _ _) hX)
 ·rw [Int.toNat_natCast,show min k 32=k by omega,z2h]
 ·intro n hn w
  obtain ⟨N,rfl⟩:∃ N:Nat,n=(N:Int):=⟨n.toNat,by omega⟩
  exact right_ok X N hX (by omega) (by omega) w
theorem zeX (b o n c:Nat) (v0 v1 v2 v3 x0 x1 x2 y1 y2 r:Int) (w:World) (hn:4<=n) (c0:w.cell? ⟨b,o,none⟩=some (.int .u8 v0)) (c1:w.cell? ⟨b,o+1,none⟩=some (.int .u8 v1)) (c2:w.cell? ⟨b,o+2,none⟩=some (.int .u8 v2)) (c3:w.cell? ⟨b,o+3,none⟩=some (.int .u8 v3))
  (e0:v0 % 4294967296*16777216 % 4294967296=x0) (e1:v1 % 4294967296*65536 % 4294967296=x1) (e2:v2 % 4294967296*256 % 4294967296=x2) (f1:bits .or .u32 x0 x1=y1) (f2:bits .or .u32 y1 x2=y2) (f3:bits .or .u32 y2 (v3 % 4294967296)=r):
  Calls Tryz.prog 171 #[.slice (some ⟨b,o,none⟩) n c] w fun e w'=>e=.returned (.int .u32 r)/\∃ m,w'=w.drewN m:=by
 have h0:(0:Int)<(n:Int):=by omega
 have h1:(1:Int)<(n:Int):=by omega
 have h2:(2:Int)<(n:Int):=by omega
 have h3:(3:Int)<(n:Int):=by omega
 clear hn;go_enter Tryz.func171,Tryz.ntmps171;go_wp2;go_quiet (fail)
 go_wp2;go_ret;exact ⟨rfl,_,rfl⟩
theorem zbu {a b k:Nat} (ha:a % 2 ^ k=0) (hb:b<2 ^ k) (h1:a<2 ^ 32) (h2:b<2 ^ 32):bits .or .u32 (a:Int) (b:Int)=((a+b:Nat):Int):=by
 rw [or32 h1 h2,nat_join k a b ha hb]
theorem zau (b o n c:Nat) (s:Nat->Nat) (h:∀ i,s i<256) (i:Nat) (w:World) (hn:4<=n) (hc:∀ j,j<4->w.cell? ⟨b,o+j,none⟩=some (.int .u8 (s (i+j):Int))):
  Calls Tryz.prog 171 #[.slice (some ⟨b,o,none⟩) n c] w fun e w'=>e=.returned (.int .u32 ((z0d s i:Nat):Int))/\∃ m,w'=w.drewN m:=by
 have h0:=h i;have h1:=h (i+1);have h2:=h (i+2);have h3:=h (i+3);have w3:((s (i+3):Nat):Int) % 4294967296=((s (i+3):Nat):Int):=by omega
 refine zeX b o n c (s i:Nat) (s (i+1):Nat) (s (i+2):Nat) (s (i+3):Nat) ((s i*16777216:Nat):Int) ((s (i+1)*65536:Nat):Int) ((s (i+2)*256:Nat):Int) _ _ _ w hn (hc 0 (by omega)) (hc 1 (by omega)) (hc 2 (by omega)) (hc 3 (by omega)) ?_ ?_ ?_ (zbu (k:=24) ?_ ?_ ?_ ?_) (zbu (k:=16) ?_ ?_ ?_ ?_) (by rw [w3];exact zbu (k:=8) (by omega) (by omega) (by omega) (by omega));all_goals omega
end Go.Proofs.YtnimaaflmdoaaaaGreatDoor.HX
