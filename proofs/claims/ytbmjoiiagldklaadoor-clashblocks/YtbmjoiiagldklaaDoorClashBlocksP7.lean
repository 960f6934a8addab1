/- Texts of ClashBlocks, one behind the other: VerifyRegions, HashPlain. -/
import Derived.WalkKit
import Derived.WalkLawsBesides
import Derived.OpenShut
import Derived.Laws.BitsAllLaws
import Derived.Test.YtbmjoiiagldklaaDoorClashBlocksP6
namespace Go.Proofs.YtbmjoiiagldklaaDoor
open Go.RowKit
set_option maxRecDepth 100000
theorem zac {w:World} {g:Nat} {x y:List Int} (h:Has w g (z00 x).toArray 26) (hx:x.length=32) (hy:y.length=32):(Instr.storeAt 26 (.pointer (some ⟨g,0,none⟩)) (.agg (z00 y).toArray)).run Tryd.prog w=.ok () (w.setRow g (z00 y).toArray):=by
  simp only [Instr.storeAt,Instr.sureAddr,Sem.run_bind,Sem.run_pure,Result.andThen]
  exact run_storeVar_row w g 26 26 (z00 x).toArray (z00 y).toArray h (z08 hy) (by simp [z00,hx,hy]) (z0G y)
def z2e:Array Oper:=#[⟨some 29,.move (.tmp 6),111,"climbed.go:20",#[],none⟩,⟨some 30,.load 88 (.tmp 9),88,"climbed.go:20",#[],none⟩,⟨some 31,.move (.tmp 1),23,"climbed.go:20",#[],none⟩,⟨some 32,.move (.tmp 7),3,"climbed.go:20",#[],none⟩,⟨some 33,.indexAddr 23 (.tmp 31) (.tmp 32),0,"climbed.go:20",#[⟨2,.data⟩,⟨3,.data⟩],none⟩,⟨some 34,.load 26 (.tmp 33),26,"climbed.go:20",#[⟨4,.data⟩],none⟩,⟨none,.mapUpdate 111 (.tmp 29) (.tmp 30) (.tmp 34),0,"climbed.go:20",#[⟨0,.data⟩,⟨1,.data⟩,⟨5,.data⟩,⟨0,.phase⟩,⟨1,.phase⟩,⟨2,.phase⟩,⟨3,.phase⟩,⟨4,.phase⟩,⟨5,.phase⟩],none⟩]
set_option maxHeartbeats 2000000 in
theorem z8x {Q:Exit→Act→World→Prop} (u0 u2 u3 u4 u5 u8 u10 u11 u12 u13 u14 u15 u16 u17 u18 u19 u20 u21 u22 u23 u24 u25 u26 u27 u28 u29 u30 u31 u32 u33 u34 u35 u36:Value) (W:World) (mb b9 gn o n c i h k:Nat) (H:List Int) (hH:H.length=32) (b1:(i:Int)<(n:Int)) (P0 P1:World→Prop) (t0:∀ w,P0 w→(fun W:World=>W.cell? ⟨b9,0,none⟩=some (.int .u8 (h:Int))∧W.cell? ⟨b9,1,none⟩=some (.int .u64 (k:Int))∧W.rangeAt gn (o+i*32) (z00 H)) w) (t1:∀ w,P1 w→(fun W:World=>W.cell? ⟨b9,0,none⟩=some (.int .u8 (h:Int))∧W.cell? ⟨b9,1,none⟩=some (.int .u64 (k:Int))∧W.rangeAt gn (o+i*32) (z00 H)) w) (s1:∀ w,P0 w→∃ w',(Instr.mapUpdate 111 (.map (some mb)) (.agg #[.int .u8 (h:Int),.int .u64 (k:Int)]) (.agg (z00 H).toArray)).run Tryd.prog w=.ok () w'∧P1 w') (h0:P0 W.drew) (hQ:∀ c (a:Act) (t:Tmp) (v:Value) w,Q (.panic c) (a.put (some t) v) w→Q (.panic c) a w)
    (hfin:∀ (w:World),P1 w→Q .normal {tmps:=#[u0,.slice (some ⟨gn,o,none⟩) n c,u2,u3,u4,u5,.map (some mb),.int .i64 (i:Int),u8,.pointer (some ⟨b9,0,none⟩),u10,u11,u12,u13,u14,u15,u16,u17,u18,u19,u20,u21,u22,u23,u24,u25,u26,u27,u28,.map (some mb),.agg #[.int .u8 (h:Int),.int .u64 (k:Int)],.slice (some ⟨gn,o,none⟩) n c,.int .i64 (i:Int),.pointer (some ⟨gn,o+i*32,none⟩),.agg (z00 H).toArray,u35,u36],defers:=[]} w):(Code.region 8 z2e true).wp Tryd.prog Q {tmps:=#[u0,.slice (some ⟨gn,o,none⟩) n c,u2,u3,u4,u5,.map (some mb),.int .i64 (i:Int),u8,.pointer (some ⟨b9,0,none⟩),u10,u11,u12,u13,u14,u15,u16,u17,u18,u19,u20,u21,u22,u23,u24,u25,u26,u27,u28,u29,u30,u31,u32,u33,u34,u35,u36],defers:=[]} W:=by
  have k1:∀ (w:World),P1 w→wpAnyH Tryd.prog .any z2e Q (fun W:World=>W.cell? ⟨b9,0,none⟩=some (.int .u8 (h:Int))∧W.cell? ⟨b9,1,none⟩=some (.int .u64 (k:Int))∧W.rangeAt gn (o+i*32) (z00 H)) 0 #[true,true,true,true,true,true,true] {tmps:=#[u0,.slice (some ⟨gn,o,none⟩) n c,u2,u3,u4,u5,.map (some mb),.int .i64 (i:Int),u8,.pointer (some ⟨b9,0,none⟩),u10,u11,u12,u13,u14,u15,u16,u17,u18,u19,u20,u21,u22,u23,u24,u25,u26,u27,u28,.map (some mb),.agg #[.int .u8 (h:Int),.int .u64 (k:Int)],.slice (some ⟨gn,o,none⟩) n c,.int .i64 (i:Int),.pointer (some ⟨gn,o+i*32,none⟩),.agg (z00 H).toArray,u35,u36],defers:=[]} w:=fun  w hp=>by
    have hww:(fun W:World=>W.cell? ⟨b9,0,none⟩=some (.int .u8 (h:Int))∧W.cell? ⟨b9,1,none⟩=some (.int .u64 (k:Int))∧W.rangeAt gn (o+i*32) (z00 H)) w:=t1 _ hp
    have last:wpAnyH Tryd.prog .any z2e Q (fun W:World=>W.cell? ⟨b9,0,none⟩=some (.int .u8 (h:Int))∧W.cell? ⟨b9,1,none⟩=some (.int .u64 (k:Int))∧W.rangeAt gn (o+i*32) (z00 H)) 0 #[true,true,true,true,true,true,true] {tmps:=#[u0,.slice (some ⟨gn,o,none⟩) n c,u2,u3,u4,u5,.map (some mb),.int .i64 (i:Int),u8,.pointer (some ⟨b9,0,none⟩),u10,u11,u12,u13,u14,u15,u16,u17,u18,u19,u20,u21,u22,u23,u24,u25,u26,u27,u28,.map (some mb),.agg #[.int .u8 (h:Int),.int .u64 (k:Int)],.slice (some ⟨gn,o,none⟩) n c,.int .i64 (i:Int),.pointer (some ⟨gn,o+i*32,none⟩),.agg (z00 H).toArray,u35,u36],defers:=[]} w:=wpAnyH_done (by kernel_rfl) (hfin  w hp) _
    exact last
  have k0:∀ (w:World),P0 w→wpAnyH Tryd.prog .any z2e Q (fun W:World=>W.cell? ⟨b9,0,none⟩=some (.int .u8 (h:Int))∧W.cell? ⟨b9,1,none⟩=some (.int .u64 (k:Int))∧W.rangeAt gn (o+i*32) (z00 H)) 7 #[false,false,false,false,false,false,false] {tmps:=#[u0,.slice (some ⟨gn,o,none⟩) n c,u2,u3,u4,u5,.map (some mb),.int .i64 (i:Int),u8,.pointer (some ⟨b9,0,none⟩),u10,u11,u12,u13,u14,u15,u16,u17,u18,u19,u20,u21,u22,u23,u24,u25,u26,u27,u28,u29,u30,u31,u32,u33,u34,u35,u36],defers:=[]} w:=fun  w hp=>by
    have hww:(fun W:World=>W.cell? ⟨b9,0,none⟩=some (.int .u8 (h:Int))∧W.cell? ⟨b9,1,none⟩=some (.int .u64 (k:Int))∧W.rangeAt gn (o+i*32) (z00 H)) w:=t0 _ hp
    have last:wpAnyH Tryd.prog .any z2e Q (fun W:World=>W.cell? ⟨b9,0,none⟩=some (.int .u8 (h:Int))∧W.cell? ⟨b9,1,none⟩=some (.int .u64 (k:Int))∧W.rangeAt gn (o+i*32) (z00 H)) 1 #[true,true,true,true,true,true,false] {tmps:=#[u0,.slice (some ⟨gn,o,none⟩) n c,u2,u3,u4,u5,.map (some mb),.int .i64 (i:Int),u8,.pointer (some ⟨b9,0,none⟩),u10,u11,u12,u13,u14,u15,u16,u17,u18,u19,u20,u21,u22,u23,u24,u25,u26,u27,u28,.map (some mb),.agg #[.int .u8 (h:Int),.int .u64 (k:Int)],.slice (some ⟨gn,o,none⟩) n c,.int .i64 (i:Int),.pointer (some ⟨gn,o+i*32,none⟩),.agg (z00 H).toArray,u35,u36],defers:=[]} w:=by
      obtain ⟨w',hr,hp⟩:=s1 w hp
      refine z2J (o:=⟨none,.mapUpdate 111 (.tmp 29) (.tmp 30) (.tmp 34),0,"climbed.go:20",#[⟨0,.data⟩,⟨1,.data⟩,⟨5,.data⟩,⟨0,.phase⟩,⟨1,.phase⟩,⟨2,.phase⟩,⟨3,.phase⟩,⟨4,.phase⟩,⟨5,.phase⟩],none⟩) 6 (by kernel_rfl) rfl (fun K hK=>?_)
      exact z0M rfl (z19 hr) (hK.out _ _ (t1 _ hp) (fun _=>k1  w' hp))
    have t5:wpAnyH Tryd.prog .any z2e Q (fun W:World=>W.cell? ⟨b9,0,none⟩=some (.int .u8 (h:Int))∧W.cell? ⟨b9,1,none⟩=some (.int .u64 (k:Int))∧W.rangeAt gn (o+i*32) (z00 H)) 2 #[true,true,true,true,true,false,false] {tmps:=#[u0,.slice (some ⟨gn,o,none⟩) n c,u2,u3,u4,u5,.map (some mb),.int .i64 (i:Int),u8,.pointer (some ⟨b9,0,none⟩),u10,u11,u12,u13,u14,u15,u16,u17,u18,u19,u20,u21,u22,u23,u24,u25,u26,u27,u28,.map (some mb),.agg #[.int .u8 (h:Int),.int .u64 (k:Int)],.slice (some ⟨gn,o,none⟩) n c,.int .i64 (i:Int),.pointer (some ⟨gn,o+i*32,none⟩),u34,u35,u36],defers:=[]} w:=
      wpAnyH_take (i:=5) (oi:=⟨some 34,.load 26 (.tmp 33),26,"climbed.go:20",#[⟨4,.data⟩],none⟩) (v:=.agg (z00 H).toArray) rfl (by kernel_rfl) (by kernel_rfl) (by kernel_rfl) (fun _ _ _ h=>hQ _ _ _ _ _ h) (yieldsIf_load_mid (by rfl) 26 (.tmp 33) rfl gn (o+i*32) rfl (z00 H) _ (fun w h=>h.2.2) Tryd.underlying26 rfl (z0a hH)) hww last
    have t4:wpAnyH Tryd.prog .any z2e Q (fun W:World=>W.cell? ⟨b9,0,none⟩=some (.int .u8 (h:Int))∧W.cell? ⟨b9,1,none⟩=some (.int .u64 (k:Int))∧W.rangeAt gn (o+i*32) (z00 H)) 3 #[true,true,true,true,false,false,false] {tmps:=#[u0,.slice (some ⟨gn,o,none⟩) n c,u2,u3,u4,u5,.map (some mb),.int .i64 (i:Int),u8,.pointer (some ⟨b9,0,none⟩),u10,u11,u12,u13,u14,u15,u16,u17,u18,u19,u20,u21,u22,u23,u24,u25,u26,u27,u28,.map (some mb),.agg #[.int .u8 (h:Int),.int .u64 (k:Int)],.slice (some ⟨gn,o,none⟩) n c,.int .i64 (i:Int),u33,u34,u35,u36],defers:=[]} w:=
      wpAnyH_take (i:=4) (oi:=⟨some 33,.indexAddr 23 (.tmp 31) (.tmp 32),0,"climbed.go:20",#[⟨2,.data⟩,⟨3,.data⟩],none⟩) (v:=.pointer (some ⟨gn,o+i*32,none⟩)) rfl (by kernel_rfl) (by kernel_rfl) (by kernel_rfl) (fun _ _ _ h=>hQ _ _ _ _ _ h) (Yields.yieldsIf (Or.inl ⟨by rfl,fun W=>by go_simp⟩)) hww t5
    have t3:wpAnyH Tryd.prog .any z2e Q (fun W:World=>W.cell? ⟨b9,0,none⟩=some (.int .u8 (h:Int))∧W.cell? ⟨b9,1,none⟩=some (.int .u64 (k:Int))∧W.rangeAt gn (o+i*32) (z00 H)) 4 #[true,true,true,false,false,false,false] {tmps:=#[u0,.slice (some ⟨gn,o,none⟩) n c,u2,u3,u4,u5,.map (some mb),.int .i64 (i:Int),u8,.pointer (some ⟨b9,0,none⟩),u10,u11,u12,u13,u14,u15,u16,u17,u18,u19,u20,u21,u22,u23,u24,u25,u26,u27,u28,.map (some mb),.agg #[.int .u8 (h:Int),.int .u64 (k:Int)],.slice (some ⟨gn,o,none⟩) n c,u32,u33,u34,u35,u36],defers:=[]} w:=
      wpAnyH_take (i:=3) (oi:=⟨some 32,.move (.tmp 7),3,"climbed.go:20",#[],none⟩) (v:=.int .i64 (i:Int)) rfl (by kernel_rfl) (by kernel_rfl) (by kernel_rfl) (fun _ _ _ h=>hQ _ _ _ _ _ h) (Yields.yieldsIf (Or.inl ⟨by rfl,fun W=>by go_simp⟩)) hww t4
    have t2:wpAnyH Tryd.prog .any z2e Q (fun W:World=>W.cell? ⟨b9,0,none⟩=some (.int .u8 (h:Int))∧W.cell? ⟨b9,1,none⟩=some (.int .u64 (k:Int))∧W.rangeAt gn (o+i*32) (z00 H)) 5 #[true,true,false,false,false,false,false] {tmps:=#[u0,.slice (some ⟨gn,o,none⟩) n c,u2,u3,u4,u5,.map (some mb),.int .i64 (i:Int),u8,.pointer (some ⟨b9,0,none⟩),u10,u11,u12,u13,u14,u15,u16,u17,u18,u19,u20,u21,u22,u23,u24,u25,u26,u27,u28,.map (some mb),.agg #[.int .u8 (h:Int),.int .u64 (k:Int)],u31,u32,u33,u34,u35,u36],defers:=[]} w:=
      wpAnyH_take (i:=2) (oi:=⟨some 31,.move (.tmp 1),23,"climbed.go:20",#[],none⟩) (v:=.slice (some ⟨gn,o,none⟩) n c) rfl (by kernel_rfl) (by kernel_rfl) (by kernel_rfl) (fun _ _ _ h=>hQ _ _ _ _ _ h) (Yields.yieldsIf (Or.inl ⟨by rfl,fun W=>by go_simp⟩)) hww t3
    have t1:wpAnyH Tryd.prog .any z2e Q (fun W:World=>W.cell? ⟨b9,0,none⟩=some (.int .u8 (h:Int))∧W.cell? ⟨b9,1,none⟩=some (.int .u64 (k:Int))∧W.rangeAt gn (o+i*32) (z00 H)) 6 #[true,false,false,false,false,false,false] {tmps:=#[u0,.slice (some ⟨gn,o,none⟩) n c,u2,u3,u4,u5,.map (some mb),.int .i64 (i:Int),u8,.pointer (some ⟨b9,0,none⟩),u10,u11,u12,u13,u14,u15,u16,u17,u18,u19,u20,u21,u22,u23,u24,u25,u26,u27,u28,.map (some mb),u30,u31,u32,u33,u34,u35,u36],defers:=[]} w:=
      wpAnyH_take (i:=1) (oi:=⟨some 30,.load 88 (.tmp 9),88,"climbed.go:20",#[],none⟩) (v:=.agg #[.int .u8 (h:Int),.int .u64 (k:Int)]) rfl (by kernel_rfl) (by kernel_rfl) (by kernel_rfl) (fun _ _ _ h=>hQ _ _ _ _ _ h) (Or.inl ⟨by rfl,fun w hw=>by have hx:=hw.1;have hy:=hw.2.1;go_simp⟩) hww t2
    have t0:wpAnyH Tryd.prog .any z2e Q (fun W:World=>W.cell? ⟨b9,0,none⟩=some (.int .u8 (h:Int))∧W.cell? ⟨b9,1,none⟩=some (.int .u64 (k:Int))∧W.rangeAt gn (o+i*32) (z00 H)) 7 #[false,false,false,false,false,false,false] {tmps:=#[u0,.slice (some ⟨gn,o,none⟩) n c,u2,u3,u4,u5,.map (some mb),.int .i64 (i:Int),u8,.pointer (some ⟨b9,0,none⟩),u10,u11,u12,u13,u14,u15,u16,u17,u18,u19,u20,u21,u22,u23,u24,u25,u26,u27,u28,u29,u30,u31,u32,u33,u34,u35,u36],defers:=[]} w:=
      wpAnyH_take (i:=0) (oi:=⟨some 29,.move (.tmp 6),111,"climbed.go:20",#[],none⟩) (v:=.map (some mb)) rfl (by kernel_rfl) (by kernel_rfl) (by kernel_rfl) (fun _ _ _ h=>hQ _ _ _ _ _ h) (Yields.yieldsIf (Or.inl ⟨by rfl,fun W=>by go_simp⟩)) hww t1
    exact t0
  have hp:=h0
  exact wp_region_held_drew (S:=(fun W:World=>W.cell? ⟨b9,0,none⟩=some (.int .u8 (h:Int))∧W.cell? ⟨b9,1,none⟩=some (.int .u64 (k:Int))∧W.rangeAt gn (o+i*32) (z00 H))) (by kernel_rfl) (t0 _ hp) (fun _=>k0 _ hp)
def z1S:Array Oper:=#[⟨some 27,.move (.tmp 0),111,"climbed.go:30",#[],none⟩,⟨some 28,.load 88 (.tmp 5),88,"climbed.go:30",#[],none⟩,⟨some 29,.move (.tmp 1),3,"climbed.go:30",#[],none⟩,⟨some 30,.load 26 (.tmp 6),26,"climbed.go:30",#[],none⟩,⟨some 31,.load 26 (.tmp 7),26,"climbed.go:30",#[],none⟩,⟨some 32,.call {callee:=.value (.func 90),args:=#[.tmp 29,.tmp 30,.tmp 31],argTypes:=#[3,26,26]},26,"climbed.go:30",#[⟨2,.data⟩,⟨3,.data⟩,⟨4,.data⟩],none⟩,⟨none,.mapUpdate 111 (.tmp 27) (.tmp 28) (.tmp 32),0,"climbed.go:30",#[⟨0,.data⟩,⟨1,.data⟩,⟨5,.data⟩,⟨5,.chain⟩,⟨0,.phase⟩,⟨1,.phase⟩,⟨2,.phase⟩,⟨3,.phase⟩,⟨4,.phase⟩,⟨5,.phase⟩],none⟩]
set_option maxHeartbeats 2000000 in
theorem zad {Q:Exit→Act→World→Prop} (u2 u3 u4 u8 u9 u10 u11 u12 u13 u14 u15 u16 u17 u18 u19 u20 u21 u22 u23 u24 u25 u26 u27 u28 u29 u30 u31 u32:Value) (W:World) (mb b5 b6 b7 h k:Nat) (d:Int) (L R:List Int) (hL:L.length=32) (hR:R.length=32) (P0:World→Prop) (P1 P2:Value→World→Prop) (t0:∀ w,P0 w→(fun W:World=>W.cell? ⟨b5,0,none⟩=some (.int .u8 (h:Int))∧W.cell? ⟨b5,1,none⟩=some (.int .u64 (k:Int))∧W.rangeAt b6 0 (z00 L)∧W.rangeAt b7 0 (z00 R)) w) (t1:∀ X w,P1 X w→(fun W:World=>W.cell? ⟨b5,0,none⟩=some (.int .u8 (h:Int))∧W.cell? ⟨b5,1,none⟩=some (.int .u64 (k:Int))∧W.rangeAt b6 0 (z00 L)∧W.rangeAt b7 0 (z00 R)) w) (t2:∀ X w,P2 X w→(fun W:World=>W.cell? ⟨b5,0,none⟩=some (.int .u8 (h:Int))∧W.cell? ⟨b5,1,none⟩=some (.int .u64 (k:Int))∧W.rangeAt b6 0 (z00 L)∧W.rangeAt b7 0 (z00 R)) w) (c1:∀ w,P0 w→Calls Tryd.prog 90 #[.int .i64 d,.agg (z00 L).toArray,.agg (z00 R).toArray] w fun e w'=>∃ X,e=.returned X∧P1 X w') (s1:∀ X w,P1 X w→∃ w',(Instr.mapUpdate 111 (.map (some mb)) (.agg #[.int .u8 (h:Int),.int .u64 (k:Int)]) X).run Tryd.prog w=.ok () w'∧P2 X w') (h0:P0 W.drew) (hQ:∀ c (a:Act) (t:Tmp) (v:Value) w,Q (.panic c) (a.put (some t) v) w→Q (.panic c) a w)
    (hfin:∀ (X:Value) (w:World),P2 X w→Q .normal {tmps:=#[.map (some mb),.int .i64 d,u2,u3,u4,.pointer (some ⟨b5,0,none⟩),.pointer (some ⟨b6,0,none⟩),.pointer (some ⟨b7,0,none⟩),u8,u9,u10,u11,u12,u13,u14,u15,u16,u17,u18,u19,u20,u21,u22,u23,u24,u25,u26,.map (some mb),.agg #[.int .u8 (h:Int),.int .u64 (k:Int)],.int .i64 d,.agg (z00 L).toArray,.agg (z00 R).toArray,X],defers:=[]} w):(Code.region 3 z1S true).wp Tryd.prog Q {tmps:=#[.map (some mb),.int .i64 d,u2,u3,u4,.pointer (some ⟨b5,0,none⟩),.pointer (some ⟨b6,0,none⟩),.pointer (some ⟨b7,0,none⟩),u8,u9,u10,u11,u12,u13,u14,u15,u16,u17,u18,u19,u20,u21,u22,u23,u24,u25,u26,u27,u28,u29,u30,u31,u32],defers:=[]} W:=by
  have k2:∀ (X:Value) (w:World),P2 X w→wpAnyH Tryd.prog .any z1S Q (fun W:World=>W.cell? ⟨b5,0,none⟩=some (.int .u8 (h:Int))∧W.cell? ⟨b5,1,none⟩=some (.int .u64 (k:Int))∧W.rangeAt b6 0 (z00 L)∧W.rangeAt b7 0 (z00 R)) 0 #[true,true,true,true,true,true,true] {tmps:=#[.map (some mb),.int .i64 d,u2,u3,u4,.pointer (some ⟨b5,0,none⟩),.pointer (some ⟨b6,0,none⟩),.pointer (some ⟨b7,0,none⟩),u8,u9,u10,u11,u12,u13,u14,u15,u16,u17,u18,u19,u20,u21,u22,u23,u24,u25,u26,.map (some mb),.agg #[.int .u8 (h:Int),.int .u64 (k:Int)],.int .i64 d,.agg (z00 L).toArray,.agg (z00 R).toArray,X],defers:=[]} w:=fun X w hp=>by
    have hww:(fun W:World=>W.cell? ⟨b5,0,none⟩=some (.int .u8 (h:Int))∧W.cell? ⟨b5,1,none⟩=some (.int .u64 (k:Int))∧W.rangeAt b6 0 (z00 L)∧W.rangeAt b7 0 (z00 R)) w:=t2 _ _ hp
    have last:wpAnyH Tryd.prog .any z1S Q (fun W:World=>W.cell? ⟨b5,0,none⟩=some (.int .u8 (h:Int))∧W.cell? ⟨b5,1,none⟩=some (.int .u64 (k:Int))∧W.rangeAt b6 0 (z00 L)∧W.rangeAt b7 0 (z00 R)) 0 #[true,true,true,true,true,true,true] {tmps:=#[.map (some mb),.int .i64 d,u2,u3,u4,.pointer (some ⟨b5,0,none⟩),.pointer (some ⟨b6,0,none⟩),.pointer (some ⟨b7,0,none⟩),u8,u9,u10,u11,u12,u13,u14,u15,u16,u17,u18,u19,u20,u21,u22,u23,u24,u25,u26,.map (some mb),.agg #[.int .u8 (h:Int),.int .u64 (k:Int)],.int .i64 d,.agg (z00 L).toArray,.agg (z00 R).toArray,X],defers:=[]} w:=wpAnyH_done (by kernel_rfl) (hfin X w hp) _
    exact last
  have k1:∀ (X:Value) (w:World),P1 X w→wpAnyH Tryd.prog .any z1S Q (fun W:World=>W.cell? ⟨b5,0,none⟩=some (.int .u8 (h:Int))∧W.cell? ⟨b5,1,none⟩=some (.int .u64 (k:Int))∧W.rangeAt b6 0 (z00 L)∧W.rangeAt b7 0 (z00 R)) 1 #[true,true,true,true,true,true,false] {tmps:=#[.map (some mb),.int .i64 d,u2,u3,u4,.pointer (some ⟨b5,0,none⟩),.pointer (some ⟨b6,0,none⟩),.pointer (some ⟨b7,0,none⟩),u8,u9,u10,u11,u12,u13,u14,u15,u16,u17,u18,u19,u20,u21,u22,u23,u24,u25,u26,.map (some mb),.agg #[.int .u8 (h:Int),.int .u64 (k:Int)],.int .i64 d,.agg (z00 L).toArray,.agg (z00 R).toArray,X],defers:=[]} w:=fun X w hp=>by
    have hww:(fun W:World=>W.cell? ⟨b5,0,none⟩=some (.int .u8 (h:Int))∧W.cell? ⟨b5,1,none⟩=some (.int .u64 (k:Int))∧W.rangeAt b6 0 (z00 L)∧W.rangeAt b7 0 (z00 R)) w:=t1 _ _ hp
    have last:wpAnyH Tryd.prog .any z1S Q (fun W:World=>W.cell? ⟨b5,0,none⟩=some (.int .u8 (h:Int))∧W.cell? ⟨b5,1,none⟩=some (.int .u64 (k:Int))∧W.rangeAt b6 0 (z00 L)∧W.rangeAt b7 0 (z00 R)) 1 #[true,true,true,true,true,true,false] {tmps:=#[.map (some mb),.int .i64 d,u2,u3,u4,.pointer (some ⟨b5,0,none⟩),.pointer (some ⟨b6,0,none⟩),.pointer (some ⟨b7,0,none⟩),u8,u9,u10,u11,u12,u13,u14,u15,u16,u17,u18,u19,u20,u21,u22,u23,u24,u25,u26,.map (some mb),.agg #[.int .u8 (h:Int),.int .u64 (k:Int)],.int .i64 d,.agg (z00 L).toArray,.agg (z00 R).toArray,X],defers:=[]} w:=by
      obtain ⟨w',hr,hp⟩:=s1 X w hp
      refine z2J (o:=⟨none,.mapUpdate 111 (.tmp 27) (.tmp 28) (.tmp 32),0,"climbed.go:30",#[⟨0,.data⟩,⟨1,.data⟩,⟨5,.data⟩,⟨5,.chain⟩,⟨0,.phase⟩,⟨1,.phase⟩,⟨2,.phase⟩,⟨3,.phase⟩,⟨4,.phase⟩,⟨5,.phase⟩],none⟩) 6 (by kernel_rfl) rfl (fun K hK=>?_)
      exact z0M rfl (z19 hr) (hK.out _ _ (t2 _ _ hp) (fun _=>k2 X w' hp))
    exact last
  have k0:∀ (w:World),P0 w→wpAnyH Tryd.prog .any z1S Q (fun W:World=>W.cell? ⟨b5,0,none⟩=some (.int .u8 (h:Int))∧W.cell? ⟨b5,1,none⟩=some (.int .u64 (k:Int))∧W.rangeAt b6 0 (z00 L)∧W.rangeAt b7 0 (z00 R)) 7 #[false,false,false,false,false,false,false] {tmps:=#[.map (some mb),.int .i64 d,u2,u3,u4,.pointer (some ⟨b5,0,none⟩),.pointer (some ⟨b6,0,none⟩),.pointer (some ⟨b7,0,none⟩),u8,u9,u10,u11,u12,u13,u14,u15,u16,u17,u18,u19,u20,u21,u22,u23,u24,u25,u26,u27,u28,u29,u30,u31,u32],defers:=[]} w:=fun  w hp=>by
    have hww:(fun W:World=>W.cell? ⟨b5,0,none⟩=some (.int .u8 (h:Int))∧W.cell? ⟨b5,1,none⟩=some (.int .u64 (k:Int))∧W.rangeAt b6 0 (z00 L)∧W.rangeAt b7 0 (z00 R)) w:=t0 _ hp
    have last:wpAnyH Tryd.prog .any z1S Q (fun W:World=>W.cell? ⟨b5,0,none⟩=some (.int .u8 (h:Int))∧W.cell? ⟨b5,1,none⟩=some (.int .u64 (k:Int))∧W.rangeAt b6 0 (z00 L)∧W.rangeAt b7 0 (z00 R)) 2 #[true,true,true,true,true,false,false] {tmps:=#[.map (some mb),.int .i64 d,u2,u3,u4,.pointer (some ⟨b5,0,none⟩),.pointer (some ⟨b6,0,none⟩),.pointer (some ⟨b7,0,none⟩),u8,u9,u10,u11,u12,u13,u14,u15,u16,u17,u18,u19,u20,u21,u22,u23,u24,u25,u26,.map (some mb),.agg #[.int .u8 (h:Int),.int .u64 (k:Int)],.int .i64 d,.agg (z00 L).toArray,.agg (z00 R).toArray,u32],defers:=[]} w:=by
      refine z2J (o:=⟨some 32,.call {callee:=.value (.func 90),args:=#[.tmp 29,.tmp 30,.tmp 31],argTypes:=#[3,26,26]},26,"climbed.go:30",#[⟨2,.data⟩,⟨3,.data⟩,⟨4,.data⟩],none⟩) 5 (by kernel_rfl) rfl (fun K hK=>?_)
      rw [if_pos (by rfl)]
      go_simp
      refine (c1 w hp).mono ?_
      rintro e w' ⟨X,rfl,hp⟩
      exact hK.out _ _ (t1 _ _ hp) (fun _=>k1 X w' hp)
    have t4:wpAnyH Tryd.prog .any z1S Q (fun W:World=>W.cell? ⟨b5,0,none⟩=some (.int .u8 (h:Int))∧W.cell? ⟨b5,1,none⟩=some (.int .u64 (k:Int))∧W.rangeAt b6 0 (z00 L)∧W.rangeAt b7 0 (z00 R)) 3 #[true,true,true,true,false,false,false] {tmps:=#[.map (some mb),.int .i64 d,u2,u3,u4,.pointer (some ⟨b5,0,none⟩),.pointer (some ⟨b6,0,none⟩),.pointer (some ⟨b7,0,none⟩),u8,u9,u10,u11,u12,u13,u14,u15,u16,u17,u18,u19,u20,u21,u22,u23,u24,u25,u26,.map (some mb),.agg #[.int .u8 (h:Int),.int .u64 (k:Int)],.int .i64 d,.agg (z00 L).toArray,u31,u32],defers:=[]} w:=
      wpAnyH_take (i:=4) (oi:=⟨some 31,.load 26 (.tmp 7),26,"climbed.go:30",#[],none⟩) (v:=.agg (z00 R).toArray) rfl (by kernel_rfl) (by kernel_rfl) (by kernel_rfl) (fun _ _ _ h=>hQ _ _ _ _ _ h) (yieldsIf_load_mid (by rfl) 26 (.tmp 7) rfl b7 0 rfl (z00 R) _ (fun w h=>h.2.2.2) Tryd.underlying26 rfl (z0a hR)) hww last
    have t3:wpAnyH Tryd.prog .any z1S Q (fun W:World=>W.cell? ⟨b5,0,none⟩=some (.int .u8 (h:Int))∧W.cell? ⟨b5,1,none⟩=some (.int .u64 (k:Int))∧W.rangeAt b6 0 (z00 L)∧W.rangeAt b7 0 (z00 R)) 4 #[true,true,true,false,false,false,false] {tmps:=#[.map (some mb),.int .i64 d,u2,u3,u4,.pointer (some ⟨b5,0,none⟩),.pointer (some ⟨b6,0,none⟩),.pointer (some ⟨b7,0,none⟩),u8,u9,u10,u11,u12,u13,u14,u15,u16,u17,u18,u19,u20,u21,u22,u23,u24,u25,u26,.map (some mb),.agg #[.int .u8 (h:Int),.int .u64 (k:Int)],.int .i64 d,u30,u31,u32],defers:=[]} w:=
      wpAnyH_take (i:=3) (oi:=⟨some 30,.load 26 (.tmp 6),26,"climbed.go:30",#[],none⟩) (v:=.agg (z00 L).toArray) rfl (by kernel_rfl) (by kernel_rfl) (by kernel_rfl) (fun _ _ _ h=>hQ _ _ _ _ _ h) (yieldsIf_load_mid (by rfl) 26 (.tmp 6) rfl b6 0 rfl (z00 L) _ (fun w h=>h.2.2.1) Tryd.underlying26 rfl (z0a hL)) hww t4
    have t2:wpAnyH Tryd.prog .any z1S Q (fun W:World=>W.cell? ⟨b5,0,none⟩=some (.int .u8 (h:Int))∧W.cell? ⟨b5,1,none⟩=some (.int .u64 (k:Int))∧W.rangeAt b6 0 (z00 L)∧W.rangeAt b7 0 (z00 R)) 5 #[true,true,false,false,false,false,false] {tmps:=#[.map (some mb),.int .i64 d,u2,u3,u4,.pointer (some ⟨b5,0,none⟩),.pointer (some ⟨b6,0,none⟩),.pointer (some ⟨b7,0,none⟩),u8,u9,u10,u11,u12,u13,u14,u15,u16,u17,u18,u19,u20,u21,u22,u23,u24,u25,u26,.map (some mb),.agg #[.int .u8 (h:Int),.int .u64 (k:Int)],u29,u30,u31,u32],defers:=[]} w:=
      wpAnyH_take (i:=2) (oi:=⟨some 29,.move (.tmp 1),3,"climbed.go:30",#[],none⟩) (v:=.int .i64 d) rfl (by kernel_rfl) (by kernel_rfl) (by kernel_rfl) (fun _ _ _ h=>hQ _ _ _ _ _ h) (Yields.yieldsIf (Or.inl ⟨by rfl,fun W=>by go_simp⟩)) hww t3
    have t1:wpAnyH Tryd.prog .any z1S Q (fun W:World=>W.cell? ⟨b5,0,none⟩=some (.int .u8 (h:Int))∧W.cell? ⟨b5,1,none⟩=some (.int .u64 (k:Int))∧W.rangeAt b6 0 (z00 L)∧W.rangeAt b7 0 (z00 R)) 6 #[true,false,false,false,false,false,false] {tmps:=#[.map (some mb),.int .i64 d,u2,u3,u4,.pointer (some ⟨b5,0,none⟩),.pointer (some ⟨b6,0,none⟩),.pointer (some ⟨b7,0,none⟩),u8,u9,u10,u11,u12,u13,u14,u15,u16,u17,u18,u19,u20,u21,u22,u23,u24,u25,u26,.map (some mb),u28,u29,u30,u31,u32],defers:=[]} w:=
      wpAnyH_take (i:=1) (oi:=⟨some 28,.load 88 (.tmp 5),88,"climbed.go:30",#[],none⟩) (v:=.agg #[.int .u8 (h:Int),.int .u64 (k:Int)]) rfl (by kernel_rfl) (by kernel_rfl) (by kernel_rfl) (fun _ _ _ h=>hQ _ _ _ _ _ h) (Or.inl ⟨by rfl,fun w hw=>by have hx:=hw.1;have hy:=hw.2.1;go_simp⟩) hww t2
    have t0:wpAnyH Tryd.prog .any z1S Q (fun W:World=>W.cell? ⟨b5,0,none⟩=some (.int .u8 (h:Int))∧W.cell? ⟨b5,1,none⟩=some (.int .u64 (k:Int))∧W.rangeAt b6 0 (z00 L)∧W.rangeAt b7 0 (z00 R)) 7 #[false,false,false,false,false,false,false] {tmps:=#[.map (some mb),.int .i64 d,u2,u3,u4,.pointer (some ⟨b5,0,none⟩),.pointer (some ⟨b6,0,none⟩),.pointer (some ⟨b7,0,none⟩),u8,u9,u10,u11,u12,u13,u14,u15,u16,u17,u18,u19,u20,u21,u22,u23,u24,u25,u26,u27,u28,u29,u30,u31,u32],defers:=[]} w:=
      wpAnyH_take (i:=0) (oi:=⟨some 27,.move (.tmp 0),111,"climbed.go:30",#[],none⟩) (v:=.map (some mb)) rfl (by kernel_rfl) (by kernel_rfl) (by kernel_rfl) (fun _ _ _ h=>hQ _ _ _ _ _ h) (Yields.yieldsIf (Or.inl ⟨by rfl,fun W=>by go_simp⟩)) hww t1
    exact t0
  have hp:=h0
  exact wp_region_held_drew (S:=(fun W:World=>W.cell? ⟨b5,0,none⟩=some (.int .u8 (h:Int))∧W.cell? ⟨b5,1,none⟩=some (.int .u64 (k:Int))∧W.rangeAt b6 0 (z00 L)∧W.rangeAt b7 0 (z00 R))) (by kernel_rfl) (t0 _ hp) (fun _=>k0 _ hp)
def z1T:Array Oper:=#[⟨some 25,.move (.tmp 0),3,"grow.go:30",#[],none⟩,⟨some 26,.move (.tmp 1),23,"grow.go:30",#[],none⟩,⟨some 27,.move (.tmp 7),3,"grow.go:30",#[],none⟩,⟨some 28,.indexAddr 23 (.tmp 26) (.tmp 27),0,"grow.go:30",#[⟨1,.data⟩,⟨2,.data⟩],none⟩,⟨some 29,.load 26 (.tmp 28),26,"grow.go:30",#[⟨3,.data⟩],none⟩,⟨some 30,.load 26 (.tmp 6),26,"grow.go:30",#[],none⟩,⟨some 31,.call {callee:=.value (.func 76),args:=#[.tmp 25,.tmp 29,.tmp 30],argTypes:=#[3,26,26]},26,"grow.go:30",#[⟨0,.data⟩,⟨4,.data⟩,⟨5,.data⟩],none⟩,⟨none,.store 26 (.tmp 6) (.tmp 31),0,"grow.go:30",#[⟨6,.data⟩,⟨6,.chain⟩,⟨0,.phase⟩,⟨1,.phase⟩,⟨2,.phase⟩,⟨3,.phase⟩,⟨4,.phase⟩,⟨5,.phase⟩,⟨6,.phase⟩],none⟩]
set_option maxHeartbeats 2000000 in
theorem z8y {Q:Exit→Act→World→Prop} (u2 u3 u4 u5 u8 u9 u10 u11 u12 u13 u14 u15 u16 u17 u18 u19 u20 u21 u22 u23 u24 u25 u26 u27 u28 u29 u30 u31 u32:Value) (W:World) (b6 gn o n c i:Nat) (d:Int) (L R Y:List Int) (hL:L.length=32) (hR:R.length=32) (hY:Y.length=32) (b1:(i:Int)<(n:Int)) (hLr:W.drew.rangeAt gn (o+i*32) (z00 L)) (hRr:W.drew.rangeAt b6 0 (z00 R)) (T:World→Prop) (cF:Calls Tryd.prog 76 #[.int .i64 d,.agg (z00 L).toArray,.agg (z00 R).toArray] W.drew fun e w'=>∃ X,e=.returned X∧(X=.agg (z00 Y).toArray∧Has w' b6 (z00 R).toArray 26∧T w')) (hQ:∀ c (a:Act) (t:Tmp) (v:Value) w,Q (.panic c) (a.put (some t) v) w→Q (.panic c) a w)
    (h:∀ (X:Value) (w':World),(X=.agg (z00 Y).toArray∧Has w' b6 (z00 R).toArray 26∧T w')→Q .normal {tmps:=#[.int .i64 d,.slice (some ⟨gn,o,none⟩) n c,u2,u3,u4,u5,.pointer (some ⟨b6,0,none⟩),.int .i64 (i:Int),u8,u9,u10,u11,u12,u13,u14,u15,u16,u17,u18,u19,u20,u21,u22,u23,u24,.int .i64 d,.slice (some ⟨gn,o,none⟩) n c,.int .i64 (i:Int),.pointer (some ⟨gn,o+i*32,none⟩),.agg (z00 L).toArray,.agg (z00 R).toArray,X,u32],defers:=[]} (World.setRow w' b6 (z00 Y).toArray)):(Code.region 8 z1T true).wp Tryd.prog Q {tmps:=#[.int .i64 d,.slice (some ⟨gn,o,none⟩) n c,u2,u3,u4,u5,.pointer (some ⟨b6,0,none⟩),.int .i64 (i:Int),u8,u9,u10,u11,u12,u13,u14,u15,u16,u17,u18,u19,u20,u21,u22,u23,u24,u25,u26,u27,u28,u29,u30,u31,u32],defers:=[]} W:=by
  have kX:∀ (X:Value) (w':World),(X=.agg (z00 Y).toArray∧Has w' b6 (z00 R).toArray 26∧T w')→wpAny Tryd.prog .any z1T Q 1 #[true,true,true,true,true,true,true,false] {tmps:=#[.int .i64 d,.slice (some ⟨gn,o,none⟩) n c,u2,u3,u4,u5,.pointer (some ⟨b6,0,none⟩),.int .i64 (i:Int),u8,u9,u10,u11,u12,u13,u14,u15,u16,u17,u18,u19,u20,u21,u22,u23,u24,.int .i64 d,.slice (some ⟨gn,o,none⟩) n c,.int .i64 (i:Int),.pointer (some ⟨gn,o+i*32,none⟩),.agg (z00 L).toArray,.agg (z00 R).toArray,X,u32],defers:=[]} w':=fun X w' hX=>by
    have z:wpAny Tryd.prog .any z1T Q 0 #[true,true,true,true,true,true,true,true] {tmps:=#[.int .i64 d,.slice (some ⟨gn,o,none⟩) n c,u2,u3,u4,u5,.pointer (some ⟨b6,0,none⟩),.int .i64 (i:Int),u8,u9,u10,u11,u12,u13,u14,u15,u16,u17,u18,u19,u20,u21,u22,u23,u24,.int .i64 d,.slice (some ⟨gn,o,none⟩) n c,.int .i64 (i:Int),.pointer (some ⟨gn,o+i*32,none⟩),.agg (z00 L).toArray,.agg (z00 R).toArray,X,u32],defers:=[]} (World.setRow w' b6 (z00 Y).toArray):=wpAny_done (by kernel_rfl) (h X w' hX) _
    have z7:wpAny Tryd.prog .any z1T Q 1 #[true,true,true,true,true,true,true,false] {tmps:=#[.int .i64 d,.slice (some ⟨gn,o,none⟩) n c,u2,u3,u4,u5,.pointer (some ⟨b6,0,none⟩),.int .i64 (i:Int),u8,u9,u10,u11,u12,u13,u14,u15,u16,u17,u18,u19,u20,u21,u22,u23,u24,.int .i64 d,.slice (some ⟨gn,o,none⟩) n c,.int .i64 (i:Int),.pointer (some ⟨gn,o+i*32,none⟩),.agg (z00 L).toArray,.agg (z00 R).toArray,X,u32],defers:=[]} w':=by
      refine wpAny_ready (rs:=[7]) (by kernel_rfl) (by simp) ?_
      exact AllReady.cons (o:=⟨none,.store 26 (.tmp 6) (.tmp 31),0,"grow.go:30",#[⟨6,.data⟩,⟨6,.chain⟩,⟨0,.phase⟩,⟨1,.phase⟩,⟨2,.phase⟩,⟨3,.phase⟩,⟨4,.phase⟩,⟨5,.phase⟩,⟨6,.phase⟩],none⟩) rfl (fun K hK=>z0M rfl (z19 (by obtain ⟨rfl,hb,_⟩:=hX;exact zac hb hR hY)) (hK _ _ z)) AllReady.nil
    exact z7
  have s4_5:wpAny Tryd.prog .any z1T Q 2 #[true,true,true,true,true,true,false,false] {tmps:=#[.int .i64 d,.slice (some ⟨gn,o,none⟩) n c,u2,u3,u4,u5,.pointer (some ⟨b6,0,none⟩),.int .i64 (i:Int),u8,u9,u10,u11,u12,u13,u14,u15,u16,u17,u18,u19,u20,u21,u22,u23,u24,.int .i64 d,.slice (some ⟨gn,o,none⟩) n c,.int .i64 (i:Int),.pointer (some ⟨gn,o+i*32,none⟩),.agg (z00 L).toArray,.agg (z00 R).toArray,u31,u32],defers:=[]} W.drew:=by
    refine wpAny_ready (rs:=[6]) (by kernel_rfl) (by simp) ?_
    refine AllReady.cons (o:=⟨some 31,.call {callee:=.value (.func 76),args:=#[.tmp 25,.tmp 29,.tmp 30],argTypes:=#[3,26,26]},26,"grow.go:30",#[⟨0,.data⟩,⟨4,.data⟩,⟨5,.data⟩],none⟩) rfl (fun K hK=>?_) ?_
    · rw [if_pos (by rfl)]
      go_simp
      refine (cF).mono ?_
      rintro e w' ⟨X,rfl,hX⟩
      exact hK _ _ (kX X w' hX)
    exact AllReady.nil
  have s5:wpAny Tryd.prog .any z1T Q 3 #[true,true,true,true,false,true,false,false] {tmps:=#[.int .i64 d,.slice (some ⟨gn,o,none⟩) n c,u2,u3,u4,u5,.pointer (some ⟨b6,0,none⟩),.int .i64 (i:Int),u8,u9,u10,u11,u12,u13,u14,u15,u16,u17,u18,u19,u20,u21,u22,u23,u24,.int .i64 d,.slice (some ⟨gn,o,none⟩) n c,.int .i64 (i:Int),.pointer (some ⟨gn,o+i*32,none⟩),u29,.agg (z00 R).toArray,u31,u32],defers:=[]} W.drew:=by
    refine wpAny_ready (rs:=[4]) (by kernel_rfl) (by simp) ?_
    refine AllReady.cons (o:=⟨some 29,.load 26 (.tmp 28),26,"grow.go:30",#[⟨3,.data⟩],none⟩) rfl (fun K hK=>z0b (v:=.agg (z00 L).toArray) rfl (z07 (run_loadAt_mid (P:=Tryd.prog) _ gn (o+i*32) 26 _ _ hLr Tryd.underlying26 rfl (z0a hL))) (hK _ _ s4_5)) ?_
    exact AllReady.nil
  have s4:wpAny Tryd.prog .any z1T Q 3 #[true,true,true,true,true,false,false,false] {tmps:=#[.int .i64 d,.slice (some ⟨gn,o,none⟩) n c,u2,u3,u4,u5,.pointer (some ⟨b6,0,none⟩),.int .i64 (i:Int),u8,u9,u10,u11,u12,u13,u14,u15,u16,u17,u18,u19,u20,u21,u22,u23,u24,.int .i64 d,.slice (some ⟨gn,o,none⟩) n c,.int .i64 (i:Int),.pointer (some ⟨gn,o+i*32,none⟩),.agg (z00 L).toArray,u30,u31,u32],defers:=[]} W.drew:=by
    refine wpAny_ready (rs:=[5]) (by kernel_rfl) (by simp) ?_
    refine AllReady.cons (o:=⟨some 30,.load 26 (.tmp 6),26,"grow.go:30",#[],none⟩) rfl (fun K hK=>z0b (v:=.agg (z00 R).toArray) rfl (z07 (run_loadAt_mid (P:=Tryd.prog) _ b6 0 26 _ _ hRr Tryd.underlying26 rfl (z0a hR))) (hK _ _ s4_5)) ?_
    exact AllReady.nil
  have s:wpAny Tryd.prog .any z1T Q 4 #[true,true,true,true,false,false,false,false] {tmps:=#[.int .i64 d,.slice (some ⟨gn,o,none⟩) n c,u2,u3,u4,u5,.pointer (some ⟨b6,0,none⟩),.int .i64 (i:Int),u8,u9,u10,u11,u12,u13,u14,u15,u16,u17,u18,u19,u20,u21,u22,u23,u24,.int .i64 d,.slice (some ⟨gn,o,none⟩) n c,.int .i64 (i:Int),.pointer (some ⟨gn,o+i*32,none⟩),u29,u30,u31,u32],defers:=[]} W.drew:=by
    refine wpAny_ready (rs:=[4,5]) (by kernel_rfl) (by simp) ?_
    refine AllReady.cons (o:=⟨some 29,.load 26 (.tmp 28),26,"grow.go:30",#[⟨3,.data⟩],none⟩) rfl (fun K hK=>z0b (v:=.agg (z00 L).toArray) rfl (z07 (run_loadAt_mid (P:=Tryd.prog) _ gn (o+i*32) 26 _ _ hLr Tryd.underlying26 rfl (z0a hL))) (hK _ _ s4)) ?_
    refine AllReady.cons (o:=⟨some 30,.load 26 (.tmp 6),26,"grow.go:30",#[],none⟩) rfl (fun K hK=>z0b (v:=.agg (z00 R).toArray) rfl (z07 (run_loadAt_mid (P:=Tryd.prog) _ b6 0 26 _ _ hRr Tryd.underlying26 rfl (z0a hR))) (hK _ _ s5)) ?_
    exact AllReady.nil
  have t3:wpAny Tryd.prog .any z1T Q 5 #[true,true,true,false,false,false,false,false] {tmps:=#[.int .i64 d,.slice (some ⟨gn,o,none⟩) n c,u2,u3,u4,u5,.pointer (some ⟨b6,0,none⟩),.int .i64 (i:Int),u8,u9,u10,u11,u12,u13,u14,u15,u16,u17,u18,u19,u20,u21,u22,u23,u24,.int .i64 d,.slice (some ⟨gn,o,none⟩) n c,.int .i64 (i:Int),u28,u29,u30,u31,u32],defers:=[]} W.drew:=
    wpAny_take (i:=3) (oi:=⟨some 28,.indexAddr 23 (.tmp 26) (.tmp 27),0,"grow.go:30",#[⟨1,.data⟩,⟨2,.data⟩],none⟩) (v:=.pointer (some ⟨gn,o+i*32,none⟩)) rfl (by kernel_rfl) (by kernel_rfl) (by kernel_rfl) (fun _ _ _ h=>hQ _ _ _ _ _ h) (Or.inl ⟨by rfl,fun W=>by go_simp⟩) s
  have t2:wpAny Tryd.prog .any z1T Q 6 #[true,true,false,false,false,false,false,false] {tmps:=#[.int .i64 d,.slice (some ⟨gn,o,none⟩) n c,u2,u3,u4,u5,.pointer (some ⟨b6,0,none⟩),.int .i64 (i:Int),u8,u9,u10,u11,u12,u13,u14,u15,u16,u17,u18,u19,u20,u21,u22,u23,u24,.int .i64 d,.slice (some ⟨gn,o,none⟩) n c,u27,u28,u29,u30,u31,u32],defers:=[]} W.drew:=
    wpAny_take (i:=2) (oi:=⟨some 27,.move (.tmp 7),3,"grow.go:30",#[],none⟩) (v:=.int .i64 (i:Int)) rfl (by kernel_rfl) (by kernel_rfl) (by kernel_rfl) (fun _ _ _ h=>hQ _ _ _ _ _ h) (Or.inl ⟨by rfl,fun W=>by go_simp⟩) t3
  have t1:wpAny Tryd.prog .any z1T Q 7 #[true,false,false,false,false,false,false,false] {tmps:=#[.int .i64 d,.slice (some ⟨gn,o,none⟩) n c,u2,u3,u4,u5,.pointer (some ⟨b6,0,none⟩),.int .i64 (i:Int),u8,u9,u10,u11,u12,u13,u14,u15,u16,u17,u18,u19,u20,u21,u22,u23,u24,.int .i64 d,u26,u27,u28,u29,u30,u31,u32],defers:=[]} W.drew:=
    wpAny_take (i:=1) (oi:=⟨some 26,.move (.tmp 1),23,"grow.go:30",#[],none⟩) (v:=.slice (some ⟨gn,o,none⟩) n c) rfl (by kernel_rfl) (by kernel_rfl) (by kernel_rfl) (fun _ _ _ h=>hQ _ _ _ _ _ h) (Or.inl ⟨by rfl,fun W=>by go_simp⟩) t2
  have t0:wpAny Tryd.prog .any z1T Q 8 #[false,false,false,false,false,false,false,false] {tmps:=#[.int .i64 d,.slice (some ⟨gn,o,none⟩) n c,u2,u3,u4,u5,.pointer (some ⟨b6,0,none⟩),.int .i64 (i:Int),u8,u9,u10,u11,u12,u13,u14,u15,u16,u17,u18,u19,u20,u21,u22,u23,u24,u25,u26,u27,u28,u29,u30,u31,u32],defers:=[]} W.drew:=
    wpAny_take (i:=0) (oi:=⟨some 25,.move (.tmp 0),3,"grow.go:30",#[],none⟩) (v:=.int .i64 d) rfl (by kernel_rfl) (by kernel_rfl) (by kernel_rfl) (fun _ _ _ h=>hQ _ _ _ _ _ h) (Or.inl ⟨by rfl,fun W=>by go_simp⟩) t1
  refine wp_region_any (by kernel_rfl) ?_
  exact t0
end Go.Proofs.YtbmjoiiagldklaaDoor

namespace Go.Proofs.YtbmjoiiagldklaaDoor.HX
open Go.RowKit
def ROTR (n x:Nat):Nat:=x / 2 ^ n+x % 2 ^ n*2 ^ (32 - n)
theorem z1H {n x:Nat} (hn:n≤32) (hx:x<2 ^ 32):ROTR n x<2 ^ 32:=by
  unfold ROTR
  have h1:(2:Nat) ^ 32=2 ^ n*2 ^ (32 - n):=by rw [← Nat.pow_add];congr 1;omega
  have h2:x / 2 ^ n<2 ^ (32 - n):=by
    apply Nat.div_lt_of_lt_mul
    rw [← h1];exact hx
  have h3:x % 2 ^ n+1≤2 ^ n:=Nat.mod_lt _ (Nat.two_pow_pos n)
  have h4:=Nat.mul_le_mul_right (2 ^ (32 - n)) h3
  rw [Nat.add_mul,Nat.one_mul,← h1] at h4
  omega
theorem ziy {n x:Nat} (hn:n≤32) (hx:x<2 ^ 32):x*2 ^ (32 - n) % 2 ^ 32 ||| x / 2 ^ n=ROTR n x:=by
  have h1:(2:Nat) ^ 32=2 ^ n*2 ^ (32 - n):=by rw [← Nat.pow_add];congr 1;omega
  have h2:x / 2 ^ n<2 ^ (32 - n):=by
    apply Nat.div_lt_of_lt_mul
    rw [← h1];exact hx
  have h3:x*2 ^ (32 - n) % 2 ^ 32=x % 2 ^ n*2 ^ (32 - n):=by
    rw [h1,Nat.mul_mod_mul_right]
  rw [h3,nat_join (32 - n) _ _ (Nat.mul_mod_left _ _) h2]
  unfold ROTR
  omega
def MIX (i j k x:Nat):Nat:=ROTR i x ^^^ ROTR j x ^^^ ROTR k x
def z1I (i j k x:Nat):Nat:=ROTR i x ^^^ ROTR j x ^^^ x / 2 ^ k
def CHO (x y z:Nat):Nat:=(x &&& y) ^^^ ((4294967295 - x) &&& z)
def MAJ (x y z:Nat):Nat:=(x &&& y) ^^^ (x &&& z) ^^^ (y &&& z)
def z0h (s:Nat→Nat) (o:Nat):Nat:=s o*16777216+s (o+1)*65536+s (o+2)*256+s (o+3)
theorem z1e {s:Nat→Nat} (o:Nat) (h:∀ i,s i<256):z0h s o<2 ^ 32:=by
  have h0:=h o;have h1:=h (o+1);have h2:=h (o+2);have h3:=h (o+3)
  unfold z0h
  omega
def SCHL (b:Nat→Nat):Nat→Nat→Nat
  | 0,t=>if t<16 then z0h b (4*t) else 0
  | k+1,t=>if t=16+k then (z1I 17 19 10 (SCHL b k (14+k))+SCHL b k (9+k)+z1I 7 18 3 (SCHL b k (1+k))+SCHL b k k) % 4294967296 else SCHL b k t
def SCH (b:Nat→Nat):Nat→Nat:=SCHL b 48
theorem z7q {b:Nat→Nat} (h:∀ i,b i<256):∀ k t,SCHL b k t<2 ^ 32
  | 0,t=>by
    unfold SCHL
    split
    · exact z1e _ h
    · decide
  | k+1,t=>by
    unfold SCHL
    split
    · exact Nat.mod_lt _ (by decide)
    · exact z7q h k t
theorem z2F (b:Nat→Nat) (k:Nat):∀ m t,t<16+k→SCHL b (k+m) t=SCHL b k t
  | 0,_,_=>rfl
  | m+1,t,h=>by
    show SCHL b (k+m+1) t=_
    rw [SCHL,if_neg (by omega)]
    exact z2F b k m t h
theorem z0i (b:Nat→Nat) (t:Nat) (h:t<16):SCH b t=z0h b (4*t):=by
  have:=z2F b 0 48 t (by omega)
  rw [Nat.zero_add] at this
  show SCHL b 48 t=_
  rw [this,SCHL,if_pos h]
theorem zeW (b:Nat→Nat) (k:Nat) (h:k<48):SCH b (16+k)=(z1I 17 19 10 (SCH b (14+k))+SCH b (9+k)+z1I 7 18 3 (SCH b (1+k))+SCH b k) % 4294967296:=by
  have e:∀ t,t<16+k→SCH b t=SCHL b k t:=fun t ht=>by
    have:=z2F b k (48 - k) t ht
    rw [show k+(48 - k)=48 by omega] at this
    exact this
  have e1:SCH b (16+k)=SCHL b (k+1) (16+k):=by
    have:=z2F b (k+1) (48 - (k+1)) (16+k) (by omega)
    rw [show k+1+(48 - (k+1))=48 by omega] at this
    exact this
  rw [e1,SCHL,if_pos rfl,e _ (by omega),e _ (by omega),e _ (by omega),e _ (by omega)]
def KLIST:List Nat:=[1116352408,1899447441,3049323471,3921009573,961987163,1508970993,2453635748,2870763221,3624381080,310598401,607225278,1426881987,1925078388,2162078206,2614888103,3248222580,3835390401,4022224774,264347078,604807628,770255983,1249150122,1555081692,1996064986,2554220882,2821834349,2952996808,3210313671,3336571891,3584528711,113926993,338241895,666307205,773529912,1294757372,1396182291,1695183700,1986661051,2177026350,2456956037,2730485921,2820302411,3259730800,3345764771,3516065817,3600352804,4094571909,275423344,430227734,506948616,659060556,883997877,958139571,1322822218,1537002063,1747873779,1955562222,2024104815,2227730452,2361852424,2428436474,2756734187,3204031479,3329325298]
def KC (t:Nat):Nat:=KLIST.getD t 0
structure ST where
  a:Nat
  b:Nat
  c:Nat
  d:Nat
  e:Nat
  f:Nat
  g:Nat
  h:Nat
def T1 (k x:Nat) (s:ST):Nat:=(s.h+MIX 6 11 25 s.e+CHO s.e s.f s.g+k+x) % 4294967296
def T2 (s:ST):Nat:=(MIX 2 13 22 s.a+MAJ s.a s.b s.c) % 4294967296
def RND (k x:Nat) (s:ST):ST:={a:=(T1 k x s+T2 s) % 4294967296,b:=s.a,c:=s.b,d:=s.c,e:=(s.d+T1 k x s) % 4294967296,f:=s.e,g:=s.f,h:=s.g}
def Small (s:ST):Prop:=s.a<2 ^ 32∧s.b<2 ^ 32∧s.c<2 ^ 32∧s.d<2 ^ 32∧s.e<2 ^ 32∧s.f<2 ^ 32∧s.g<2 ^ 32∧s.h<2 ^ 32
theorem Small.rnd {s:ST} (h:Small s) (k x:Nat):Small (RND k x s):=by
  obtain ⟨h1,h2,h3,h4,h5,h6,h7,h8⟩:=h
  exact ⟨Nat.mod_lt _ (by decide),h1,h2,h3,Nat.mod_lt _ (by decide),h5,h6,h7⟩
def RUN (x:Nat→Nat) (s:ST):Nat→ST
  | 0=>s
  | t+1=>RND (KC t) (x t) (RUN x s t)
theorem z82 (x:Nat→Nat) {s:ST} (h:Small s):∀ t,Small (RUN x s t)
  | 0=>h
  | t+1=>(z82 x h t).rnd _ _
def STOF (s:Nat→Nat):ST:={a:=z0h s 0,b:=z0h s 4,c:=z0h s 8,d:=z0h s 12,e:=z0h s 16,f:=z0h s 20,g:=z0h s 24,h:=z0h s 28}
theorem zbS {s:Nat→Nat} (h:∀ i,s i<256):Small (STOF s):=
  ⟨z1e _ h,z1e _ h,z1e _ h,z1e _ h,z1e _ h,z1e _ h,z1e _ h,z1e _ h⟩
def ST.at (s:ST):Nat→Nat
  | 0=>s.a
  | 1=>s.b
  | 2=>s.c
  | 3=>s.d
  | 4=>s.e
  | 5=>s.f
  | 6=>s.g
  | 7=>s.h
  | _=>0
def OUTW (s b:Nat→Nat) (i:Nat):Nat:=(z0h s (4*i)+(RUN (SCH b) (STOF s) 64).at i) % 4294967296
def z0A (x:Nat→Nat) (i:Nat):Nat:=x (i / 4) / 2 ^ (24 - 8*(i % 4)) % 256
def WID (w:Int):Nat:=(min (max w 1) 32).toNat
def z0R (w:Int) (s:Nat→Nat) (i:Nat):Nat:=if i<WID w then s i else 0
def COMP (w:Int) (s b:Nat→Nat):Nat→Nat:=z0R w (z0A (OUTW s b))
theorem z4Q (x:Nat→Nat) (i:Nat):z0A x i<256:=Nat.mod_lt _ (by decide)
theorem z35 {w:Int} {s:Nat→Nat} (h:∀ i,s i<256) (i:Nat):z0R w s i<256:=by
  unfold z0R
  split
  · exact h i
  · decide
theorem zfY (w:Int) (s b:Nat→Nat) (i:Nat):COMP w s b i<256:=z35 (z4Q _) i
end Go.Proofs.YtbmjoiiagldklaaDoor.HX
