/- Texts of ClashForks, one behind the other: ClashPrefixRegions, VerifyReachPlain. -/
import Derived.Test.YthpdlnbbbcgemaaGreatDoorClashForksP21
import Derived.Test.YthpdlnbbbcgemaaGreatDoorClashForksP23
import Derived.Test.YthpdlnbbbcgemaaGreatDoorClashForksP26
namespace Go.Proofs.YthpdlnbbbcgemaaGreatDoor
open Go.RowKit
set_option maxRecDepth 100000
def z2E:Array Oper:=#[⟨some 45,.move (.tmp 0),55,"met.go:78",#[],none⟩,⟨some 46,.move (.tmp 8),40,"met.go:78",#[],none⟩,⟨some 47,.move (.tmp 12),3,"met.go:78",#[],none⟩,⟨some 48,.indexAddr 40 (.tmp 46) (.tmp 47),0,"met.go:78",#[⟨1,.data⟩,⟨2,.data⟩],none⟩,⟨some 49,.load 24 (.tmp 48),24,"met.go:78",#[⟨3,.data⟩],none⟩,⟨some 50,.load 24 (.tmp 11),24,"met.go:78",#[],none⟩,⟨some 51,.call {callee:=.value (.func 48),args:=#[.tmp 49,.tmp 50],argTypes:=#[24,24]},25,"met.go:78",#[⟨4,.data⟩,⟨5,.data⟩],none⟩,⟨some 52,.call {callee:=.value (.func 47),args:=#[.tmp 45,.tmp 51],argTypes:=#[55,25]},24,"met.go:78",#[⟨0,.data⟩,⟨6,.data⟩,⟨6,.chain⟩],none⟩,⟨none,.store 24 (.tmp 11) (.tmp 52),0,"met.go:78",#[⟨7,.data⟩,⟨7,.chain⟩,⟨0,.phase⟩,⟨1,.phase⟩,⟨2,.phase⟩,⟨3,.phase⟩,⟨4,.phase⟩,⟨5,.phase⟩,⟨6,.phase⟩,⟨7,.phase⟩],none⟩]
set_option maxHeartbeats 2000000 in
theorem zeV {Q:Exit→Act→World→Prop} {u1 u2 u3 u4 u5 u6 u7 u9 u10 u13 u14 u15 u16 u17 u18 u19 u20 u21 u22 u23 u24 u25 u26 u27 u28 u29 u30 u31 u32 u33 u34 u35 u36 u37 u38 u39 u40 u41 u42 u43 u44 u45 u46 u47 u48 u49 u50 u51 u52 u53 u54 u55 u56 u57 u58 u59 u60 u61 u62 u63 u64 u65 u66 u67 u68 u69 u70 u71 u72 u73 u74 u75:Value} (W:World) (b b10 gp on N nc t:Nat) (L A X:List Int) (lL:L.length=32) (lA:A.length=32) (lX:X.length=32) (hi:(t:Int)<(N:Int)) (P0:World→Prop) (P1:Nat→Nat→World→Prop) (P2 P3:World→Prop) (h0:P0 W.drew) (t0:∀ w,P0 w→(fun w:World=>w.rangeAt gp (on+t*32) (z01 L)) w) (t1:∀ gt c w,P1 gt c w→(fun w:World=>w.rangeAt gp (on+t*32) (z01 L)) w) (t2:∀ w,P2 w→(fun w:World=>w.rangeAt gp (on+t*32) (z01 L)) w) (t3:∀ w,P3 w→(fun w:World=>w.rangeAt gp (on+t*32) (z01 L)) w) (r10:∀ w,P0 w→w.rangeAt b10 0 (z01 A))
    (cF:∀ w,P0 w→Calls Tryz.prog 48 #[.agg (z01 L).toArray,.agg (z01 A).toArray] w fun e w'=>∃ (gt:Nat) (c:Nat),e=.returned (.slice (some ⟨gt,0,none⟩) 65 c)∧P1 gt c w')
    (cT:∀ gt c w,P1 gt c w→Calls Tryz.prog 47 #[.pointer (some ⟨b,0,none⟩),.slice (some ⟨gt,0,none⟩) 65 c] w fun e w'=>e=.returned (.agg (z01 X).toArray)∧P2 w') (st:∀ w,P2 w→Has w b10 (z01 A).toArray 24) (s3:∀ w,P2 w→P3 (w.setRow b10 (z01 X).toArray)) (hQ:∀ c (a:Act) (t:Tmp) (v:Value) w,Q (.panic c) (a.put (some t) v) w→Q (.panic c) a w)
    (hfin:∀ (gt:Nat) (c:Nat) (w:World),(P3 w)→Q .normal {tmps:=#[.pointer (some ⟨b,0,none⟩),u1,u2,u3,u4,u5,u6,u7,.slice (some ⟨gp,on,none⟩) N nc,u9,u10,.pointer (some ⟨b10,0,none⟩),.int .i64 (t:Int),u13,u14,u15,u16,u17,u18,u19,u20,u21,u22,u23,u24,u25,u26,u27,u28,u29,u30,u31,u32,u33,u34,u35,u36,u37,u38,u39,u40,u41,u42,u43,u44,.pointer (some ⟨b,0,none⟩),.slice (some ⟨gp,on,none⟩) N nc,.int .i64 (t:Int),.pointer (some ⟨gp,(on+t*32),none⟩),.agg (z01 L).toArray,.agg (z01 A).toArray,.slice (some ⟨gt,0,none⟩) 65 c,.agg (z01 X).toArray,u53,u54,u55,u56,u57,u58,u59,u60,u61,u62,u63,u64,u65,u66,u67,u68,u69,u70,u71,u72,u73,u74,u75],defers:=[]} w):(Code.region 10 z2E true).wp Tryz.prog Q {tmps:=#[.pointer (some ⟨b,0,none⟩),u1,u2,u3,u4,u5,u6,u7,.slice (some ⟨gp,on,none⟩) N nc,u9,u10,.pointer (some ⟨b10,0,none⟩),.int .i64 (t:Int),u13,u14,u15,u16,u17,u18,u19,u20,u21,u22,u23,u24,u25,u26,u27,u28,u29,u30,u31,u32,u33,u34,u35,u36,u37,u38,u39,u40,u41,u42,u43,u44,u45,u46,u47,u48,u49,u50,u51,u52,u53,u54,u55,u56,u57,u58,u59,u60,u61,u62,u63,u64,u65,u66,u67,u68,u69,u70,u71,u72,u73,u74,u75],defers:=[]} W:=by
  have kst5_6_7_8:∀ (gt:Nat) (c:Nat) (w:World),(P3 w)→wpAnyH Tryz.prog .any z2E Q (fun w:World=>w.rangeAt gp (on+t*32) (z01 L)) 0 #[true,true,true,true,true,true,true,true,true] {tmps:=#[.pointer (some ⟨b,0,none⟩),u1,u2,u3,u4,u5,u6,u7,.slice (some ⟨gp,on,none⟩) N nc,u9,u10,.pointer (some ⟨b10,0,none⟩),.int .i64 (t:Int),u13,u14,u15,u16,u17,u18,u19,u20,u21,u22,u23,u24,u25,u26,u27,u28,u29,u30,u31,u32,u33,u34,u35,u36,u37,u38,u39,u40,u41,u42,u43,u44,.pointer (some ⟨b,0,none⟩),.slice (some ⟨gp,on,none⟩) N nc,.int .i64 (t:Int),.pointer (some ⟨gp,(on+t*32),none⟩),.agg (z01 L).toArray,.agg (z01 A).toArray,.slice (some ⟨gt,0,none⟩) 65 c,.agg (z01 X).toArray,u53,u54,u55,u56,u57,u58,u59,u60,u61,u62,u63,u64,u65,u66,u67,u68,u69,u70,u71,u72,u73,u74,u75],defers:=[]} w:=fun gt c w hp=>by
    exact wpAnyH_done (by kernel_rfl) (hfin gt c w hp) _
  have kst5_6_7:∀ (gt:Nat) (c:Nat) (w:World),(P2 w)→wpAnyH Tryz.prog .any z2E Q (fun w:World=>w.rangeAt gp (on+t*32) (z01 L)) 1 #[true,true,true,true,true,true,true,true,false] {tmps:=#[.pointer (some ⟨b,0,none⟩),u1,u2,u3,u4,u5,u6,u7,.slice (some ⟨gp,on,none⟩) N nc,u9,u10,.pointer (some ⟨b10,0,none⟩),.int .i64 (t:Int),u13,u14,u15,u16,u17,u18,u19,u20,u21,u22,u23,u24,u25,u26,u27,u28,u29,u30,u31,u32,u33,u34,u35,u36,u37,u38,u39,u40,u41,u42,u43,u44,.pointer (some ⟨b,0,none⟩),.slice (some ⟨gp,on,none⟩) N nc,.int .i64 (t:Int),.pointer (some ⟨gp,(on+t*32),none⟩),.agg (z01 L).toArray,.agg (z01 A).toArray,.slice (some ⟨gt,0,none⟩) 65 c,.agg (z01 X).toArray,u53,u54,u55,u56,u57,u58,u59,u60,u61,u62,u63,u64,u65,u66,u67,u68,u69,u70,u71,u72,u73,u74,u75],defers:=[]} w:=fun gt c w hp=>by
    refine wpAnyH_ready (rs:=[8]) (by kernel_rfl) (by simp) ?_
    refine AllReadyH.cons (o:=⟨none,.store 24 (.tmp 11) (.tmp 52),0,"met.go:78",#[⟨7,.data⟩,⟨7,.chain⟩,⟨0,.phase⟩,⟨1,.phase⟩,⟨2,.phase⟩,⟨3,.phase⟩,⟨4,.phase⟩,⟨5,.phase⟩,⟨6,.phase⟩,⟨7,.phase⟩],none⟩) rfl (fun KQ hKQ=>?_) ?_
    · exact z2i (by rfl) (z4M (z3K (st w hp) lA lX)) (have hp:(fun (gt:Nat) (c:Nat) (w:World)=>(P3 w)) gt c _:=s3 w hp;hKQ.out _ _ (t3 _ hp) (fun _=>kst5_6_7_8 gt c _ hp))
    exact AllReadyH.nil
  have kst5_6:∀ (gt:Nat) (c:Nat) (w:World),(P1 gt c w)→wpAnyH Tryz.prog .any z2E Q (fun w:World=>w.rangeAt gp (on+t*32) (z01 L)) 2 #[true,true,true,true,true,true,true,false,false] {tmps:=#[.pointer (some ⟨b,0,none⟩),u1,u2,u3,u4,u5,u6,u7,.slice (some ⟨gp,on,none⟩) N nc,u9,u10,.pointer (some ⟨b10,0,none⟩),.int .i64 (t:Int),u13,u14,u15,u16,u17,u18,u19,u20,u21,u22,u23,u24,u25,u26,u27,u28,u29,u30,u31,u32,u33,u34,u35,u36,u37,u38,u39,u40,u41,u42,u43,u44,.pointer (some ⟨b,0,none⟩),.slice (some ⟨gp,on,none⟩) N nc,.int .i64 (t:Int),.pointer (some ⟨gp,(on+t*32),none⟩),.agg (z01 L).toArray,.agg (z01 A).toArray,.slice (some ⟨gt,0,none⟩) 65 c,u52,u53,u54,u55,u56,u57,u58,u59,u60,u61,u62,u63,u64,u65,u66,u67,u68,u69,u70,u71,u72,u73,u74,u75],defers:=[]} w:=fun gt c w hp=>by
    refine wpAnyH_ready (rs:=[7]) (by kernel_rfl) (by simp) ?_
    refine AllReadyH.cons (o:=⟨some 52,.call {callee:=.value (.func 47),args:=#[.tmp 45,.tmp 51],argTypes:=#[55,25]},24,"met.go:78",#[⟨0,.data⟩,⟨6,.data⟩,⟨6,.chain⟩],none⟩) rfl (fun KQ hKQ=>?_) ?_
    · rw [if_pos (by rfl)]
      go_simp
      refine (show Calls _ _ _ w (fun e w'=>e=.returned (.agg (z01 X).toArray)∧(P2 w')) from cT gt c w hp).mono ?_
      rintro e w' ⟨rfl,hp⟩
      exact hKQ.out _ _ (t2 _ hp) (fun _=>kst5_6_7 gt c w' hp)
    exact AllReadyH.nil
  have kst5:∀ (w:World),(P0 w)→wpAnyH Tryz.prog .any z2E Q (fun w:World=>w.rangeAt gp (on+t*32) (z01 L)) 3 #[true,true,true,true,true,true,false,false,false] {tmps:=#[.pointer (some ⟨b,0,none⟩),u1,u2,u3,u4,u5,u6,u7,.slice (some ⟨gp,on,none⟩) N nc,u9,u10,.pointer (some ⟨b10,0,none⟩),.int .i64 (t:Int),u13,u14,u15,u16,u17,u18,u19,u20,u21,u22,u23,u24,u25,u26,u27,u28,u29,u30,u31,u32,u33,u34,u35,u36,u37,u38,u39,u40,u41,u42,u43,u44,.pointer (some ⟨b,0,none⟩),.slice (some ⟨gp,on,none⟩) N nc,.int .i64 (t:Int),.pointer (some ⟨gp,(on+t*32),none⟩),.agg (z01 L).toArray,.agg (z01 A).toArray,u51,u52,u53,u54,u55,u56,u57,u58,u59,u60,u61,u62,u63,u64,u65,u66,u67,u68,u69,u70,u71,u72,u73,u74,u75],defers:=[]} w:=fun  w hp=>by
    refine wpAnyH_ready (rs:=[6]) (by kernel_rfl) (by simp) ?_
    refine AllReadyH.cons (o:=⟨some 51,.call {callee:=.value (.func 48),args:=#[.tmp 49,.tmp 50],argTypes:=#[24,24]},25,"met.go:78",#[⟨4,.data⟩,⟨5,.data⟩],none⟩) rfl (fun KQ hKQ=>?_) ?_
    · rw [if_pos (by rfl)]
      go_simp
      refine (show Calls _ _ _ w (fun e w'=>∃ (gt:Nat) (c:Nat),e=.returned (.slice (some ⟨gt,0,none⟩) 65 c)∧(P1 gt c w')) from cF w hp).mono ?_
      rintro e w' ⟨gt,c,rfl,hp⟩
      exact hKQ.out _ _ (t1 _ _ _ hp) (fun _=>kst5_6 gt c w' hp)
    exact AllReadyH.nil
  have kst:∀ (w:World),(P0 w)→wpAnyH Tryz.prog .any z2E Q (fun w:World=>w.rangeAt gp (on+t*32) (z01 L)) 4 #[true,true,true,true,true,false,false,false,false] {tmps:=#[.pointer (some ⟨b,0,none⟩),u1,u2,u3,u4,u5,u6,u7,.slice (some ⟨gp,on,none⟩) N nc,u9,u10,.pointer (some ⟨b10,0,none⟩),.int .i64 (t:Int),u13,u14,u15,u16,u17,u18,u19,u20,u21,u22,u23,u24,u25,u26,u27,u28,u29,u30,u31,u32,u33,u34,u35,u36,u37,u38,u39,u40,u41,u42,u43,u44,.pointer (some ⟨b,0,none⟩),.slice (some ⟨gp,on,none⟩) N nc,.int .i64 (t:Int),.pointer (some ⟨gp,(on+t*32),none⟩),.agg (z01 L).toArray,u50,u51,u52,u53,u54,u55,u56,u57,u58,u59,u60,u61,u62,u63,u64,u65,u66,u67,u68,u69,u70,u71,u72,u73,u74,u75],defers:=[]} w:=fun  w hp=>by
    refine wpAnyH_ready (rs:=[5]) (by kernel_rfl) (by simp) ?_
    refine AllReadyH.cons (o:=⟨some 50,.load 24 (.tmp 11),24,"met.go:78",#[],none⟩) rfl (fun KQ hKQ=>?_) ?_
    · exact z0Z (by rfl) (z0I (run_loadAt_mid (P:=Tryz.prog) w b10 0 24 _ _ (r10 w hp) Tryz.underlying24 rfl (z0f lA))) (have hp:(fun (w:World)=>(P0 w))  _:=hp;hKQ.out _ _ (t0 _ hp) (fun _=>kst5  _ hp))
    exact AllReadyH.nil
  have hp:=h0
  have hww:(fun w:World=>w.rangeAt gp (on+t*32) (z01 L)) W.drew:=t0 _ hp
  have last:=kst W.drew hp
  have z:wpAnyH Tryz.prog .any z2E Q (fun w:World=>w.rangeAt gp (on+t*32) (z01 L)) 9 #[false,false,false,false,false,false,false,false,false] {tmps:=#[.pointer (some ⟨b,0,none⟩),u1,u2,u3,u4,u5,u6,u7,.slice (some ⟨gp,on,none⟩) N nc,u9,u10,.pointer (some ⟨b10,0,none⟩),.int .i64 (t:Int),u13,u14,u15,u16,u17,u18,u19,u20,u21,u22,u23,u24,u25,u26,u27,u28,u29,u30,u31,u32,u33,u34,u35,u36,u37,u38,u39,u40,u41,u42,u43,u44,u45,u46,u47,u48,u49,u50,u51,u52,u53,u54,u55,u56,u57,u58,u59,u60,u61,u62,u63,u64,u65,u66,u67,u68,u69,u70,u71,u72,u73,u74,u75],defers:=[]} W.drew:=by
    refine wpAnyH_take (i:=0) (oi:=⟨some 45,.move (.tmp 0),55,"met.go:78",#[],none⟩) (v:=.pointer (some ⟨b,0,none⟩)) rfl (by kernel_rfl) (by kernel_rfl) (by kernel_rfl) (fun _ _ _ h=>hQ _ _ _ _ _ h) (Yields.yieldsIf (Or.inl ⟨by rfl,fun W=>by go_simp⟩)) hww ?_
    simp only [Act.put,List.setIfInBounds_toArray,List.set_cons_zero,List.set_cons_succ]
    refine wpAnyH_take (i:=1) (oi:=⟨some 46,.move (.tmp 8),40,"met.go:78",#[],none⟩) (v:=.slice (some ⟨gp,on,none⟩) N nc) rfl (by kernel_rfl) (by kernel_rfl) (by kernel_rfl) (fun _ _ _ h=>hQ _ _ _ _ _ h) (Yields.yieldsIf (Or.inl ⟨by rfl,fun W=>by go_simp⟩)) hww ?_
    simp only [Act.put,List.setIfInBounds_toArray,List.set_cons_zero,List.set_cons_succ]
    refine wpAnyH_take (i:=2) (oi:=⟨some 47,.move (.tmp 12),3,"met.go:78",#[],none⟩) (v:=.int .i64 (t:Int)) rfl (by kernel_rfl) (by kernel_rfl) (by kernel_rfl) (fun _ _ _ h=>hQ _ _ _ _ _ h) (Yields.yieldsIf (Or.inl ⟨by rfl,fun W=>by go_simp⟩)) hww ?_
    simp only [Act.put,List.setIfInBounds_toArray,List.set_cons_zero,List.set_cons_succ]
    refine wpAnyH_take (i:=3) (oi:=⟨some 48,.indexAddr 40 (.tmp 46) (.tmp 47),0,"met.go:78",#[⟨1,.data⟩,⟨2,.data⟩],none⟩) (v:=.pointer (some ⟨gp,(on+t*32),none⟩)) rfl (by kernel_rfl) (by kernel_rfl) (by kernel_rfl) (fun _ _ _ h=>hQ _ _ _ _ _ h) (Yields.yieldsIf (Or.inl ⟨by rfl,fun W=>by go_simp⟩)) hww ?_
    simp only [Act.put,List.setIfInBounds_toArray,List.set_cons_zero,List.set_cons_succ]
    refine wpAnyH_take (i:=4) (oi:=⟨some 49,.load 24 (.tmp 48),24,"met.go:78",#[⟨3,.data⟩],none⟩) (v:=.agg (z01 L).toArray) rfl (by kernel_rfl) (by kernel_rfl) (by kernel_rfl) (fun _ _ _ h=>hQ _ _ _ _ _ h) (yieldsIf_load_mid (by rfl) 24 (.tmp 48) rfl gp (on+t*32) rfl (z01 L) _ (fun w h=>h) Tryz.underlying24 rfl (z0f lL)) hww ?_
    simp only [Act.put,List.setIfInBounds_toArray,List.set_cons_zero,List.set_cons_succ]
    exact last
  exact wp_region_held_drew (S:=(fun w:World=>w.rangeAt gp (on+t*32) (z01 L))) (by kernel_rfl) hww (fun _=>z)
def z39:Array Oper:=#[⟨some 61,.move (.tmp 0),55,"met.go:83",#[],none⟩,⟨some 62,.fieldAddr 50 (.tmp 4) 0,0,"met.go:83",#[],none⟩,⟨some 63,.load 22 (.tmp 62),22,"met.go:83",#[⟨1,.data⟩],none⟩,⟨some 64,.fieldAddr 50 (.tmp 4) 2,0,"met.go:83",#[],none⟩,⟨some 65,.load 40 (.tmp 64),40,"met.go:83",#[⟨3,.data⟩],none⟩,⟨some 66,.fieldAddr 50 (.tmp 4) 0,0,"met.go:83",#[],none⟩,⟨some 67,.load 22 (.tmp 66),22,"met.go:83",#[⟨5,.data⟩],none⟩,⟨some 68,.call {callee:=.value (.func 51),args:=#[.tmp 67],argTypes:=#[22]},3,"met.go:83",#[⟨6,.data⟩],none⟩,⟨some 69,.slice 40 (.tmp 65) none (some (.tmp 68)) none,40,"met.go:83",#[⟨4,.data⟩,⟨7,.data⟩],none⟩,⟨some 70,.call {callee:=.value (.func 49),args:=#[.tmp 61,.tmp 63,.tmp 69],argTypes:=#[55,22,40]},0,"met.go:83",#[⟨0,.data⟩,⟨2,.data⟩,⟨8,.data⟩,⟨7,.chain⟩],none⟩]
set_option maxHeartbeats 2000000 in
theorem zeW {Q:Exit→Act→World→Prop} {u1 u2 u3 u5 u6 u7 u8 u9 u10 u11 u12 u13 u14 u15 u16 u17 u18 u19 u20 u21 u22 u23 u24 u25 u26 u27 u28 u29 u30 u31 u32 u33 u34 u35 u36 u37 u38 u39 u40 u41 u42 u43 u44 u45 u46 u47 u48 u49 u50 u51 u52 u53 u54 u55 u56 u57 u58 u59 u60 u61 u62 u63 u64 u65 u66 u67 u68 u69 u70 u71 u72 u73 u74 u75:Value} (W:World) (b b4 gn N nc k F:Nat) (hs:∀ w,(Instr.slice 40 (.slice (some ⟨gn,0,none⟩) N nc) none (some (.int .i64 (k:Int))) none).run Tryz.prog w=.ok (.slice (some ⟨gn,0,none⟩) k nc) w) (P0 P1 P2:World→Prop) (h0:P0 W.drew) (t0:∀ w,P0 w→(fun w:World=>w.cell? ⟨b4,0,none⟩=some (.int .u64 (F:Int))∧w.cell? ⟨b4,2,none⟩=some (.slice (some ⟨gn,0,none⟩) N nc)) w) (t1:∀ w,P1 w→(fun w:World=>w.cell? ⟨b4,0,none⟩=some (.int .u64 (F:Int))∧w.cell? ⟨b4,2,none⟩=some (.slice (some ⟨gn,0,none⟩) N nc)) w) (t2:∀ w,P2 w→(fun w:World=>w.cell? ⟨b4,0,none⟩=some (.int .u64 (F:Int))∧w.cell? ⟨b4,2,none⟩=some (.slice (some ⟨gn,0,none⟩) N nc)) w)
    (cO:∀ w,P0 w→Calls Tryz.prog 51 #[.int .u64 (F:Int)] w fun e w'=>e=.returned (.int .i64 (k:Int))∧P1 w') (cB:∀ w,P1 w→Calls Tryz.prog 49 #[.pointer (some ⟨b,0,none⟩),.int .u64 (F:Int),.slice (some ⟨gn,0,none⟩) k nc] w fun e w'=>∃ (v:Value),e=.returned v∧P2 w') (hQ:∀ c (a:Act) (t:Tmp) (v:Value) w,Q (.panic c) (a.put (some t) v) w→Q (.panic c) a w)
    (hfin:∀ (v:Value) (w:World),(P2 w)→Q .normal {tmps:=#[.pointer (some ⟨b,0,none⟩),u1,u2,u3,.pointer (some ⟨b4,0,none⟩),u5,u6,u7,u8,u9,u10,u11,u12,u13,u14,u15,u16,u17,u18,u19,u20,u21,u22,u23,u24,u25,u26,u27,u28,u29,u30,u31,u32,u33,u34,u35,u36,u37,u38,u39,u40,u41,u42,u43,u44,u45,u46,u47,u48,u49,u50,u51,u52,u53,u54,u55,u56,u57,u58,u59,u60,.pointer (some ⟨b,0,none⟩),.pointer (some ⟨b4,0,none⟩),.int .u64 (F:Int),.pointer (some ⟨b4,2,none⟩),.slice (some ⟨gn,0,none⟩) N nc,.pointer (some ⟨b4,0,none⟩),.int .u64 (F:Int),.int .i64 (k:Int),.slice (some ⟨gn,0,none⟩) k nc,v,u71,u72,u73,u74,u75],defers:=[]} w):(Code.region 14 z39 true).wp Tryz.prog Q {tmps:=#[.pointer (some ⟨b,0,none⟩),u1,u2,u3,.pointer (some ⟨b4,0,none⟩),u5,u6,u7,u8,u9,u10,u11,u12,u13,u14,u15,u16,u17,u18,u19,u20,u21,u22,u23,u24,u25,u26,u27,u28,u29,u30,u31,u32,u33,u34,u35,u36,u37,u38,u39,u40,u41,u42,u43,u44,u45,u46,u47,u48,u49,u50,u51,u52,u53,u54,u55,u56,u57,u58,u59,u60,u61,u62,u63,u64,u65,u66,u67,u68,u69,u70,u71,u72,u73,u74,u75],defers:=[]} W:=by
  have kst7_9:∀ (v:Value) (w:World),(P2 w)→wpAnyH Tryz.prog .any z39 Q (fun w:World=>w.cell? ⟨b4,0,none⟩=some (.int .u64 (F:Int))∧w.cell? ⟨b4,2,none⟩=some (.slice (some ⟨gn,0,none⟩) N nc)) 0 #[true,true,true,true,true,true,true,true,true,true] {tmps:=#[.pointer (some ⟨b,0,none⟩),u1,u2,u3,.pointer (some ⟨b4,0,none⟩),u5,u6,u7,u8,u9,u10,u11,u12,u13,u14,u15,u16,u17,u18,u19,u20,u21,u22,u23,u24,u25,u26,u27,u28,u29,u30,u31,u32,u33,u34,u35,u36,u37,u38,u39,u40,u41,u42,u43,u44,u45,u46,u47,u48,u49,u50,u51,u52,u53,u54,u55,u56,u57,u58,u59,u60,.pointer (some ⟨b,0,none⟩),.pointer (some ⟨b4,0,none⟩),.int .u64 (F:Int),.pointer (some ⟨b4,2,none⟩),.slice (some ⟨gn,0,none⟩) N nc,.pointer (some ⟨b4,0,none⟩),.int .u64 (F:Int),.int .i64 (k:Int),.slice (some ⟨gn,0,none⟩) k nc,v,u71,u72,u73,u74,u75],defers:=[]} w:=fun v w hp=>by
    exact wpAnyH_done (by kernel_rfl) (hfin v w hp) _
  have kst7:∀ (w:World),(P1 w)→wpAnyH Tryz.prog .any z39 Q (fun w:World=>w.cell? ⟨b4,0,none⟩=some (.int .u64 (F:Int))∧w.cell? ⟨b4,2,none⟩=some (.slice (some ⟨gn,0,none⟩) N nc)) 1 #[true,true,true,true,true,true,true,true,true,false] {tmps:=#[.pointer (some ⟨b,0,none⟩),u1,u2,u3,.pointer (some ⟨b4,0,none⟩),u5,u6,u7,u8,u9,u10,u11,u12,u13,u14,u15,u16,u17,u18,u19,u20,u21,u22,u23,u24,u25,u26,u27,u28,u29,u30,u31,u32,u33,u34,u35,u36,u37,u38,u39,u40,u41,u42,u43,u44,u45,u46,u47,u48,u49,u50,u51,u52,u53,u54,u55,u56,u57,u58,u59,u60,.pointer (some ⟨b,0,none⟩),.pointer (some ⟨b4,0,none⟩),.int .u64 (F:Int),.pointer (some ⟨b4,2,none⟩),.slice (some ⟨gn,0,none⟩) N nc,.pointer (some ⟨b4,0,none⟩),.int .u64 (F:Int),.int .i64 (k:Int),.slice (some ⟨gn,0,none⟩) k nc,u70,u71,u72,u73,u74,u75],defers:=[]} w:=fun  w hp=>by
    refine wpAnyH_ready (rs:=[9]) (by kernel_rfl) (by simp) ?_
    refine AllReadyH.cons (o:=⟨some 70,.call {callee:=.value (.func 49),args:=#[.tmp 61,.tmp 63,.tmp 69],argTypes:=#[55,22,40]},0,"met.go:83",#[⟨0,.data⟩,⟨2,.data⟩,⟨8,.data⟩,⟨7,.chain⟩],none⟩) rfl (fun KQ hKQ=>?_) ?_
    · rw [if_pos (by rfl)]
      go_simp
      refine (show Calls _ _ _ w (fun e w'=>∃ (v:Value),e=.returned (v)∧(P2 w')) from cB w hp).mono ?_
      rintro e w' ⟨v,rfl,hp⟩
      exact hKQ.out _ _ (t2 _ hp) (fun _=>kst7_9 v w' hp)
    exact AllReadyH.nil
  have ekst_7:∀ (w:World),(P1 w)→wpAnyH Tryz.prog .any z39 Q (fun w:World=>w.cell? ⟨b4,0,none⟩=some (.int .u64 (F:Int))∧w.cell? ⟨b4,2,none⟩=some (.slice (some ⟨gn,0,none⟩) N nc)) 2 #[true,true,true,true,true,true,true,true,false,false] {tmps:=#[.pointer (some ⟨b,0,none⟩),u1,u2,u3,.pointer (some ⟨b4,0,none⟩),u5,u6,u7,u8,u9,u10,u11,u12,u13,u14,u15,u16,u17,u18,u19,u20,u21,u22,u23,u24,u25,u26,u27,u28,u29,u30,u31,u32,u33,u34,u35,u36,u37,u38,u39,u40,u41,u42,u43,u44,u45,u46,u47,u48,u49,u50,u51,u52,u53,u54,u55,u56,u57,u58,u59,u60,.pointer (some ⟨b,0,none⟩),.pointer (some ⟨b4,0,none⟩),.int .u64 (F:Int),.pointer (some ⟨b4,2,none⟩),.slice (some ⟨gn,0,none⟩) N nc,.pointer (some ⟨b4,0,none⟩),.int .u64 (F:Int),.int .i64 (k:Int),u69,u70,u71,u72,u73,u74,u75],defers:=[]} w:=fun  w hp=>by
    have hww:(fun w:World=>w.cell? ⟨b4,0,none⟩=some (.int .u64 (F:Int))∧w.cell? ⟨b4,2,none⟩=some (.slice (some ⟨gn,0,none⟩) N nc)) w:=t1 _ hp
    have last:=kst7  w hp
    refine wpAnyH_take (i:=8) (oi:=⟨some 69,.slice 40 (.tmp 65) none (some (.tmp 68)) none,40,"met.go:83",#[⟨4,.data⟩,⟨7,.data⟩],none⟩) (v:=.slice (some ⟨gn,0,none⟩) k nc) rfl (by kernel_rfl) (by kernel_rfl) (by kernel_rfl) (fun _ _ _ h=>hQ _ _ _ _ _ h) (Or.inl ⟨by rfl,fun w hw=>by have hx:=hs w;go_simp⟩) hww ?_
    simp only [Act.put,List.setIfInBounds_toArray,List.set_cons_zero,List.set_cons_succ]
    exact last
  have kst:∀ (w:World),(P0 w)→wpAnyH Tryz.prog .any z39 Q (fun w:World=>w.cell? ⟨b4,0,none⟩=some (.int .u64 (F:Int))∧w.cell? ⟨b4,2,none⟩=some (.slice (some ⟨gn,0,none⟩) N nc)) 3 #[true,true,true,true,true,true,true,false,false,false] {tmps:=#[.pointer (some ⟨b,0,none⟩),u1,u2,u3,.pointer (some ⟨b4,0,none⟩),u5,u6,u7,u8,u9,u10,u11,u12,u13,u14,u15,u16,u17,u18,u19,u20,u21,u22,u23,u24,u25,u26,u27,u28,u29,u30,u31,u32,u33,u34,u35,u36,u37,u38,u39,u40,u41,u42,u43,u44,u45,u46,u47,u48,u49,u50,u51,u52,u53,u54,u55,u56,u57,u58,u59,u60,.pointer (some ⟨b,0,none⟩),.pointer (some ⟨b4,0,none⟩),.int .u64 (F:Int),.pointer (some ⟨b4,2,none⟩),.slice (some ⟨gn,0,none⟩) N nc,.pointer (some ⟨b4,0,none⟩),.int .u64 (F:Int),u68,u69,u70,u71,u72,u73,u74,u75],defers:=[]} w:=fun  w hp=>by
    refine wpAnyH_ready (rs:=[7]) (by kernel_rfl) (by simp) ?_
    refine AllReadyH.cons (o:=⟨some 68,.call {callee:=.value (.func 51),args:=#[.tmp 67],argTypes:=#[22]},3,"met.go:83",#[⟨6,.data⟩],none⟩) rfl (fun KQ hKQ=>?_) ?_
    · rw [if_pos (by rfl)]
      go_simp
      refine (show Calls _ _ _ w (fun e w'=>e=.returned (.int .i64 (k:Int))∧(P1 w')) from cO w hp).mono ?_
      rintro e w' ⟨rfl,hp⟩
      exact hKQ.out _ _ (t1 _ hp) (fun _=>ekst_7  w' hp)
    exact AllReadyH.nil
  have hp:=h0
  have hww:(fun w:World=>w.cell? ⟨b4,0,none⟩=some (.int .u64 (F:Int))∧w.cell? ⟨b4,2,none⟩=some (.slice (some ⟨gn,0,none⟩) N nc)) W.drew:=t0 _ hp
  have last:=kst W.drew hp
  have z:wpAnyH Tryz.prog .any z39 Q (fun w:World=>w.cell? ⟨b4,0,none⟩=some (.int .u64 (F:Int))∧w.cell? ⟨b4,2,none⟩=some (.slice (some ⟨gn,0,none⟩) N nc)) 10 #[false,false,false,false,false,false,false,false,false,false] {tmps:=#[.pointer (some ⟨b,0,none⟩),u1,u2,u3,.pointer (some ⟨b4,0,none⟩),u5,u6,u7,u8,u9,u10,u11,u12,u13,u14,u15,u16,u17,u18,u19,u20,u21,u22,u23,u24,u25,u26,u27,u28,u29,u30,u31,u32,u33,u34,u35,u36,u37,u38,u39,u40,u41,u42,u43,u44,u45,u46,u47,u48,u49,u50,u51,u52,u53,u54,u55,u56,u57,u58,u59,u60,u61,u62,u63,u64,u65,u66,u67,u68,u69,u70,u71,u72,u73,u74,u75],defers:=[]} W.drew:=by
    refine wpAnyH_take (i:=0) (oi:=⟨some 61,.move (.tmp 0),55,"met.go:83",#[],none⟩) (v:=.pointer (some ⟨b,0,none⟩)) rfl (by kernel_rfl) (by kernel_rfl) (by kernel_rfl) (fun _ _ _ h=>hQ _ _ _ _ _ h) (Yields.yieldsIf (Or.inl ⟨by rfl,fun W=>by go_simp⟩)) hww ?_
    simp only [Act.put,List.setIfInBounds_toArray,List.set_cons_zero,List.set_cons_succ]
    refine wpAnyH_take (i:=1) (oi:=⟨some 62,.fieldAddr 50 (.tmp 4) 0,0,"met.go:83",#[],none⟩) (v:=.pointer (some ⟨b4,0,none⟩)) rfl (by kernel_rfl) (by kernel_rfl) (by kernel_rfl) (fun _ _ _ h=>hQ _ _ _ _ _ h) (Yields.yieldsIf (Or.inl ⟨by rfl,fun W=>by go_simp⟩)) hww ?_
    simp only [Act.put,List.setIfInBounds_toArray,List.set_cons_zero,List.set_cons_succ]
    refine wpAnyH_take (i:=2) (oi:=⟨some 63,.load 22 (.tmp 62),22,"met.go:83",#[⟨1,.data⟩],none⟩) (v:=.int .u64 (F:Int)) rfl (by kernel_rfl) (by kernel_rfl) (by kernel_rfl) (fun _ _ _ h=>hQ _ _ _ _ _ h) (Or.inl ⟨by rfl,fun w hw=>by have hx:=hw.1;go_simp⟩) hww ?_
    simp only [Act.put,List.setIfInBounds_toArray,List.set_cons_zero,List.set_cons_succ]
    refine wpAnyH_take (i:=3) (oi:=⟨some 64,.fieldAddr 50 (.tmp 4) 2,0,"met.go:83",#[],none⟩) (v:=.pointer (some ⟨b4,2,none⟩)) rfl (by kernel_rfl) (by kernel_rfl) (by kernel_rfl) (fun _ _ _ h=>hQ _ _ _ _ _ h) (Yields.yieldsIf (Or.inl ⟨by rfl,fun W=>by go_simp⟩)) hww ?_
    simp only [Act.put,List.setIfInBounds_toArray,List.set_cons_zero,List.set_cons_succ]
    refine wpAnyH_take (i:=4) (oi:=⟨some 65,.load 40 (.tmp 64),40,"met.go:83",#[⟨3,.data⟩],none⟩) (v:=.slice (some ⟨gn,0,none⟩) N nc) rfl (by kernel_rfl) (by kernel_rfl) (by kernel_rfl) (fun _ _ _ h=>hQ _ _ _ _ _ h) (Or.inl ⟨by rfl,fun w hw=>by have hx:=hw.2;go_simp⟩) hww ?_
    simp only [Act.put,List.setIfInBounds_toArray,List.set_cons_zero,List.set_cons_succ]
    refine wpAnyH_take (i:=5) (oi:=⟨some 66,.fieldAddr 50 (.tmp 4) 0,0,"met.go:83",#[],none⟩) (v:=.pointer (some ⟨b4,0,none⟩)) rfl (by kernel_rfl) (by kernel_rfl) (by kernel_rfl) (fun _ _ _ h=>hQ _ _ _ _ _ h) (Yields.yieldsIf (Or.inl ⟨by rfl,fun W=>by go_simp⟩)) hww ?_
    simp only [Act.put,List.setIfInBounds_toArray,List.set_cons_zero,List.set_cons_succ]
    refine wpAnyH_take (i:=6) (oi:=⟨some 67,.load 22 (.tmp 66),22,"met.go:83",#[⟨5,.data⟩],none⟩) (v:=.int .u64 (F:Int)) rfl (by kernel_rfl) (by kernel_rfl) (by kernel_rfl) (fun _ _ _ h=>hQ _ _ _ _ _ h) (Or.inl ⟨by rfl,fun w hw=>by have hx:=hw.1;go_simp⟩) hww ?_
    simp only [Act.put,List.setIfInBounds_toArray,List.set_cons_zero,List.set_cons_succ]
    exact last
  exact wp_region_held_drew (S:=(fun w:World=>w.cell? ⟨b4,0,none⟩=some (.int .u64 (F:Int))∧w.cell? ⟨b4,2,none⟩=some (.slice (some ⟨gn,0,none⟩) N nc))) (by kernel_rfl) hww (fun _=>z)
end Go.Proofs.YthpdlnbbbcgemaaGreatDoor

namespace Go.Proofs.YthpdlnbbbcgemaaGreatDoor
set_option maxRecDepth 100000
theorem z94 {b:Nat} (hb:b≤4611686018427387904) {h k:Nat}:∀ f a,b - a≤f→a≤k*2 ^ h→(k+1)*2 ^ h≤b→¬ (a≤k / 2*2 ^ (h+1)∧(k / 2+1)*2 ^ (h+1)≤b)→(h,k)∈SPAN a b:=by
  intro f
  have hp:=Nat.two_pow_pos h
  have hs:=z0K k h
  induction f with
  | zero=>intro a hf h1 h2 _;omega
  | succ f ih=>
    intro a hf h1 h2 h3
    have hab:a<b:=by omega
    obtain ⟨g1,g2,g3⟩:=z1Y hab hb
    rw [z1f hab]
    generalize HT a b=H at *
    have hu:=z25 h
    rcases Nat.eq_or_lt_of_le h1 with e | e
    · have hF:Fit a h b:=⟨by rw [e];exact Nat.mul_mod_left _ _,by omega⟩
      have hle:h≤H:=by
        rcases Nat.lt_or_ge H h with c | c
        · exact absurd (hF.le (H+1) (by omega)) g3
        · exact c
      rcases Nat.eq_or_lt_of_le hle with e2 | e2
      · subst e2
        rw [e,Nat.mul_div_cancel _ hp]
        exact List.mem_cons_self
      · exfalso
        have hG:=g2.le (h+1) (by omega)
        have hk:k % 2=0:=z2A.1 (by rw [← e];exact hG.1)
        have hk2:k / 2*2 ^ (h+1)=k*2 ^ h:=by
          rw [hu,← Nat.mul_assoc,show k / 2*2=k by omega]
        refine h3 ⟨by omega,?_⟩
        rw [z0K,hk2]
        have:=hG.2
        omega
    · refine List.mem_cons_of_mem _ (ih (a+2 ^ H) (by have:=Nat.two_pow_pos H;omega) ?_ h2 (fun ⟨x,y⟩=>h3 ⟨by omega,y⟩))
      rcases Nat.lt_or_ge (k*2 ^ h) (a+2 ^ H) with lt | ge
      · exfalso
        rcases Nat.lt_or_ge h H with c | c
        · obtain ⟨q,hq⟩:2 ^ (h+1) ∣ 2 ^ H:=Nat.pow_dvd_pow 2 c
          obtain ⟨A,hA⟩:2 ^ (h+1) ∣ a:=Nat.dvd_trans ⟨q,hq⟩ (Nat.dvd_of_mod_eq_zero g2.1)
          have e1:2 ^ h*(2*A)<2 ^ h*k:=by
            rw [← Nat.mul_assoc,Nat.mul_comm (2 ^ h) 2,← hu,← hA,Nat.mul_comm (2 ^ h) k]
            exact e
          have e2:2 ^ h*k<2 ^ h*(2*(A+q)):=by
            rw [← Nat.mul_assoc,Nat.mul_comm (2 ^ h) 2,← hu,Nat.mul_add,← hA,← hq,Nat.mul_comm (2 ^ h) k]
            exact lt
          have e3:=Nat.lt_of_mul_lt_mul_left e1
          have e4:=Nat.lt_of_mul_lt_mul_left e2
          refine h3 ⟨?_,?_⟩
          · rw [hA,Nat.mul_comm]
            exact Nat.mul_le_mul_right _ (by omega)
          · have:(k / 2+1)*2 ^ (h+1)≤(A+q)*2 ^ (h+1):=Nat.mul_le_mul_right _ (by omega)
            rw [Nat.mul_comm (A+q),Nat.mul_add,← hA,← hq] at this
            have:=g2.2
            omega
        · obtain ⟨q,hq⟩:2 ^ H ∣ 2 ^ h:=Nat.pow_dvd_pow 2 c
          obtain ⟨A,hA⟩:2 ^ H ∣ a:=Nat.dvd_of_mod_eq_zero g2.1
          have hx:k*2 ^ h=2 ^ H*(k*q):=by rw [hq,Nat.mul_left_comm]
          rw [hx] at e lt
          rw [hA] at e
          have e1:=Nat.lt_of_mul_lt_mul_left e
          rw [hA] at lt
          have e2:2 ^ H*(k*q)<2 ^ H*(A+1):=by rw [Nat.mul_add,Nat.mul_one];exact lt
          have e3:=Nat.lt_of_mul_lt_mul_left e2
          omega
      · exact ge
def VH (d:Int) (ss:List (Nat × Nat)) (l:List Int):Nat→Nat→List Int
  | 0,k=>HAND ss l ss.length 0 k
  | h+1,k=>if (h+1,k)∈ss then HAND ss l ss.length (h+1) k else z0D d (VH d ss l h (2*k)) (VH d ss l h (2*k+1))
theorem z59 {d:Int} {ss:List (Nat × Nat)} {l:List Int} {h k:Nat} (hm:(h,k)∈ss):VH d ss l h k=HAND ss l ss.length h k:=by
  cases h with
  | zero=>rfl
  | succ h=>rw [VH,if_pos hm]
theorem z4R {d:Int} {ss:List (Nat × Nat)} {l:List Int} {h k:Nat} (hm:(h+1,k) ∉ ss):VH d ss l (h+1) k=z0D d (VH d ss l h (2*k)) (VH d ss l h (2*k+1)):=by rw [VH,if_neg hm]
theorem z2J {d:Int} {ss:List (Nat × Nat)} {l:List Int} {n:Nat} (hl:l.length=32*n) (hr:∀ x∈l,0≤x∧x≤255) (hn:ss.length≤n):∀ h k,IsH (VH d ss l h k)
  | 0,k=>z3T hl hr _ hn 0 k
  | h+1,k=>by
    rw [VH]
    split
    · exact z3T hl hr _ hn _ k
    · exact z4g _ _ _
theorem z7J {F S t h k:Nat} (hS:S≤4611686018427387904) (hL:LOWS F t) (hh:h≤62) (he:(k+1)*2 ^ h≤S) (h1:F<(k / 2+1)*2 ^ (h+1)) (h2:¬ (F≤k / 2*2 ^ (h+1)∧(k / 2+1)*2 ^ (h+1)≤S)) (hFS:F≤S):(h,k)∈PXS F S∨(t<h∧k=F / 2 ^ h):=by
  rcases Nat.lt_or_ge F ((k+1)*2 ^ h) with c1 | c1
  · rcases Nat.lt_or_ge (k*2 ^ h) F with c2 | c2
    · right
      have hk:k=F / 2 ^ h:=(Nat.div_eq_of_lt_le (by omega) c1).symm
      refine ⟨?_,hk⟩
      rcases Nat.lt_or_ge t h with c | c
      · exact c
      · exfalso
        have hm:=(hL.2.2 h (by omega)).2 c
        have:=Nat.div_add_mod F (2 ^ h)
        rw [hm,Nat.mul_comm,← hk] at this
        omega
    · left
      exact List.mem_append_right _ (z94 hS _ F (Nat.le_refl _) c2 he h2)
  · left
    exact List.mem_append_left _ (z94 (by omega) _ 0 (Nat.le_refl _) (Nat.zero_le _) c1 (fun h=>by omega))
theorem z95 {F S x y:Nat} (hFS:F≤S) (hS:S≤4611686018427387904) (h1:y*2 ^ x<F) (h2:F<(y+1)*2 ^ x):(x,y) ∉ PXS F S:=by
  intro hm
  rcases List.mem_append.1 hm with hm | hm
  · have:=((z0Y (b:=F) (by omega) (Nat.zero_le _)).within _ hm).2.1
    dsimp only at this
    omega
  · have:=((z0Y hS hFS).within _ hm).1
    dsimp only at this
    omega
theorem zd9 {F t x:Nat} (hL:LOWS F t) (hx:t<x) (hx2:x≤64):F / 2 ^ x*2 ^ x<F∧F<(F / 2 ^ x+1)*2 ^ x:=by
  obtain ⟨a,b⟩:=z4B F x
  refine ⟨?_,b⟩
  rcases Nat.eq_or_lt_of_le a with e | e
  · exfalso
    have hm:F % 2 ^ x=0:=by rw [← e];exact Nat.mul_mod_left _ _
    have:=(hL.2.2 x hx2).1 hm
    omega
  · exact e
theorem zhe {n k:Nat}:∀ f h i,i<f→(∀ j,j≤i→(n / 2 ^ (h+j)+1)*2 ^ (h+j)≤n+k)→(JF n k f h)[i]?=some (h+i,n / 2 ^ (h+i)):=by
  intro f
  induction f with
  | zero=>intro h i hi _;omega
  | succ f ih=>
    intro h i hi hj
    have h0:(n / 2 ^ h+1)*2 ^ h≤n+k:=hj 0 (Nat.zero_le _)
    rw [JF,if_pos h0]
    cases i with
    | zero=>simp
    | succ i=>
      rw [List.getElem?_cons_succ,ih (h+1) i (by omega) (fun j hj'=>by have:=hj (j+1) (by omega);rw [show h+(j+1)=h+1+j by omega] at this;exact this)]
      rw [show h+1+i=h+(i+1) by omega]
theorem zg4 (F:Nat) {x h:Nat} (hx:x≤h):(F / 2 ^ x+1)*2 ^ x≤(F / 2 ^ h+1)*2 ^ h:=by
  have b:=(z4B F h).2
  have e:2 ^ h=2 ^ (h - x)*2 ^ x:=by rw [← Nat.pow_add];congr 1;omega
  have hlt:F / 2 ^ x<(F / 2 ^ h+1)*2 ^ (h - x):=by
    rw [Nat.div_lt_iff_lt_mul (Nat.two_pow_pos x),Nat.mul_assoc,← e]
    exact b
  calc (F / 2 ^ x+1)*2 ^ x≤((F / 2 ^ h+1)*2 ^ (h - x))*2 ^ x:=Nat.mul_le_mul_right _ hlt
    _=(F / 2 ^ h+1)*2 ^ h:=by rw [Nat.mul_assoc,← e]
abbrev JSX (F S t:Nat):List (Nat × Nat):=JF F (S - F) (62 - t) (t+1)
theorem z6q {F S t i x y:Nat} (hFS:F≤S) (hL:LOWS F t) (e:(JSX F S t)[i]?=some (x,y)):x=t+1+i∧y=F / 2 ^ x∧(y+1)*2 ^ x≤S∧y*2 ^ x<F∧F<(y+1)*2 ^ x∧x≤62:=by
  obtain ⟨h1,h2,h3,h4⟩:=zaF e
  have hx:x≤62:=by omega
  have:=zd9 hL (show t<x by omega) (by omega)
  rw [← h2] at this
  exact ⟨h1,h2,by omega,this.1,this.2,hx⟩
theorem getD_some {α:Type} {l:List α} {i:Nat} {x d:α} (e:l[i]?=some x):l.getD i d=x:=by rw [List.getD_eq_getElem?_getD,e];rfl
theorem z6r {d:Int} {F S t:Nat} (hFS:F≤S) (hS:S≤4611686018427387904) (hL:LOWS F t) (M:Nat→Nat→List Int) {h k:Nat} (hm:(h,k)∈PXS F S):∀ T,T≤(JSX F S t).length→JQ d (JSX F S t) M T h k=M h k
  | 0,_=>rfl
  | T + 1,hT=>by
    obtain ⟨⟨x,y⟩,e⟩:∃ s,(JSX F S t)[T]?=some s:=⟨_,List.getElem?_eq_getElem (by omega)⟩
    obtain ⟨_,_,_,c1,c2,_⟩:=z6q hFS hL e
    rw [JQ,getD_some e,z2Z]
    · exact z6r hFS hS hL M hm T (by omega)
    · rintro ⟨e1,e2⟩
      dsimp only at e1 e2
      subst e1 e2
      exact z95 hFS hS c1 c2 hm
theorem z76 {d:Int} {F S t:Nat} (hFS:F≤S) (hS:S≤4611686018427387904) (hL:LOWS F t) (l:List Int):∀ T,T≤(JSX F S t).length→∀ i x y,i<T→(JSX F S t)[i]?=some (x,y)→JQ d (JSX F S t) (HAND (PXS F S) l (PXS F S).length) T x y=VH d (PXS F S) l x y
  | 0,_=>fun i x y hi _=>by omega
  | T + 1,hT=>fun i x y hi e=>by
    obtain ⟨⟨a,b⟩,eT⟩:∃ s,(JSX F S t)[T]?=some s:=⟨_,List.getElem?_eq_getElem (by omega)⟩
    obtain ⟨q1,q2,q3,q4,q5,q6⟩:=z6q hFS hL eT
    obtain ⟨p1,p2,p3,p4,p5,p6⟩:=z6q hFS hL e
    rw [JQ,getD_some eT]
    by_cases hiT:i=T
    · subst hiT
      obtain ⟨rfl,rfl⟩:a=x∧b=y:=by
        have:=eT.symm.trans e
        simpa using this
      rw [z71]
      dsimp only
      obtain ⟨a',rfl⟩:∃ a',a=a'+1:=⟨a - 1,by omega⟩
      rw [z4R (z95 hFS hS q4 q5),Nat.add_sub_cancel]
      have kid:∀ K,K / 2=b→(K+1)*2 ^ a'≤(b+1)*2 ^ (a'+1)→JQ d (JSX F S t) (HAND (PXS F S) l (PXS F S).length) i a' K=VH d (PXS F S) l a' K:=fun K hK hKe=>by
        rcases z7J (k:=K) hS hL (show a'≤62 by omega) (by omega) (by rw [hK];exact q5) (by rw [hK];omega) hFS with hm | ⟨hm,hk⟩
        · rw [z6r hFS hS hL _ hm i (by omega),z59 hm]
        · obtain ⟨i',rfl⟩:∃ i',i=i'+1:=⟨i - 1,by omega⟩
          obtain ⟨⟨u,v⟩,eU⟩:∃ s,(JSX F S t)[i']?=some s:=⟨_,List.getElem?_eq_getElem (by omega)⟩
          obtain ⟨r1,r2,_⟩:=z6q hFS hL eU
          obtain rfl:u=a':=by omega
          rw [hk,← r2]
          exact z76 hFS hS hL l (i'+1) (by omega) i' u v (by omega) eU
      have hu:=z25 a'
      rw [kid (2*b) (by omega) ?_,kid (2*b+1) (by omega) ?_]
      · rw [hu,← Nat.mul_assoc]
        exact Nat.mul_le_mul_right _ (by omega)
      · rw [hu,← Nat.mul_assoc]
        exact Nat.mul_le_mul_right _ (by omega)
    · rw [z2Z]
      · exact z76 hFS hS hL l T (by omega) i x y (by omega) e
      · rintro ⟨e1,e2⟩
        dsimp only at e1
        omega
theorem z96 {d:Int} {F S t:Nat} (hFS:F≤S) (hS:S≤4611686018427387904) (hL:LOWS F t) (l:List Int) {h k:Nat} (hm:(h,k)∈SPAN 0 S):RCM d (JSX F S t) F S l h k=VH d (PXS F S) l h k:=by
  obtain ⟨i,hi⟩:=List.mem_iff_getElem?.1 hm
  have hN:=(z0Y hS (Nat.zero_le _)).within _ hm
  dsimp only at hN
  have hi2:i<PC S:=by
    rw [← z0r hS]
    exact (List.getElem?_eq_some_iff.1 hi).1
  have hat:=z1Q hS hi2
  rw [hi] at hat
  simp only [Option.some.injEq,Prod.mk.injEq] at hat
  have hpar:S<(k / 2+1)*2 ^ (h+1):=by
    rcases Nat.lt_or_ge S ((k / 2+1)*2 ^ (h+1)) with c | c
    · exact c
    · exfalso
      have h1:=z6W c
      have h2:=z3F (n:=S) (i:=i)
      rw [← hat.1,← hat.2] at h2
      omega
  unfold RCM
  rcases z7J hS hL hN.2.2.1 hN.2.1 (by omega) (fun ⟨_,h⟩=>by omega) hFS with hr | ⟨ht,hk⟩
  · rw [z6r hFS hS hL _ hr _ (Nat.le_refl _),z59 hr]
  · have hle:=hN.2.1
    have hN2:=hN.2.2.1
    have e:(JSX F S t)[h - t - 1]?=some (h,k):=by
      have:=zhe (n:=F) (k:=S - F) (62 - t) (t+1) (h - t - 1) (by omega) (fun j hj=>by
        have:=zg4 F (show t+1+j≤h by omega)
        rw [← hk] at this
        omega)
      rw [show t+1+(h - t - 1)=h by omega,← hk] at this
      exact this
    exact z76 hFS hS hL l _ (Nat.le_refl _) _ h k (List.getElem?_eq_some_iff.1 e).1 e
theorem z97 {l:List (Nat × Nat)}:∀ {a m c:Nat},Tile a l c→a≤m→m≤c→(∀ s∈l,(s.2+1)*2 ^ s.1≤m∨m≤s.2*2 ^ s.1)→∃ i,i≤l.length∧Tile a (l.take i) m∧Tile m (l.drop i) c:=by
  induction l with
  | nil=>
    intro a m c h h1 h2 _
    have e:a=c:=h
    obtain rfl:a=m:=by omega
    exact ⟨0,Nat.le_refl _,rfl,h⟩
  | cons s l ih=>
    intro a m c h h1 h2 hs
    by_cases e:a=m
    · subst e
      exact ⟨0,Nat.zero_le _,rfl,h⟩
    · obtain ⟨q1,q2,q3⟩:=h
      have hend:(s.2+1)*2 ^ s.1≤m:=by
        rcases hs s List.mem_cons_self with h | h
        · exact h
        · omega
      obtain ⟨i,i1,i2,i3⟩:=ih q3 hend h2 (fun x hx=>hs x (List.mem_cons_of_mem _ hx))
      exact ⟨i+1,Nat.succ_le_succ i1,⟨q1,q2,i2⟩,i3⟩
theorem zda {l:List (Nat × Nat)} {h k:Nat} (ht:Tile (k*2 ^ (h+1)) l ((k+1)*2 ^ (h+1))) (h0:l[0]?≠some (h+1,k)):∃ i,i≤l.length∧Tile (2*k*2 ^ h) (l.take i) ((2*k+1)*2 ^ h)∧Tile ((2*k+1)*2 ^ h) (l.drop i) ((2*k+1+1)*2 ^ h):=by
  have hu:=z25 h
  have hp:=Nat.two_pow_pos h
  have ea:k*2 ^ (h+1)=2*k*2 ^ h:=by rw [hu,← Nat.mul_assoc,Nat.mul_comm k 2]
  have ec:(k+1)*2 ^ (h+1)=(2*k+1+1)*2 ^ h:=by rw [hu,← Nat.mul_assoc];congr 1;omega
  have em:=z0K (2*k) h
  have en:=z0K (2*k+1) h
  refine (z97 (m:=(2*k+1)*2 ^ h) ht (by omega) (by omega) (fun s hs=>?_)).imp fun i hi=>⟨hi.1,by rw [← ea];exact hi.2.1,by rw [← ec];exact hi.2.2⟩
  obtain ⟨w1,w2,w3⟩:=ht.within s hs
  obtain ⟨x,y⟩:=s
  dsimp only at *
  rcases Nat.lt_or_ge ((2*k+1)*2 ^ h) ((y+1)*2 ^ x) with c1 | c1
  · rcases Nat.lt_or_ge (y*2 ^ x) ((2*k+1)*2 ^ h) with c2 | c2
    · exfalso
      rcases Nat.lt_or_ge h x with c | c
      · obtain ⟨q,hq⟩:2 ^ (h+1) ∣ 2 ^ x:=Nat.pow_dvd_pow 2 c
        have hsx:=z0K y x
        have hq1:1≤q:=by
          rcases Nat.eq_zero_or_pos q with e | e
          · subst e
            have:=Nat.two_pow_pos x
            omega
          · exact e
        have hle:2 ^ (h+1)≤2 ^ x:=Nat.pow_le_pow_right (by decide) c
        have hk1:=z0K k (h+1)
        have hx:2 ^ x=2 ^ (h+1):=by omega
        obtain rfl:x=h+1:=(Nat.pow_right_inj (by decide)).1 hx
        have hy:y*2 ^ (h+1)=k*2 ^ (h+1):=by omega
        obtain rfl:y=k:=Nat.eq_of_mul_eq_mul_right (Nat.two_pow_pos _) hy
        cases l with
        | nil=>simp at hs
        | cons s l=>
          rcases List.mem_cons.1 hs with e | e
          · exact h0 (by rw [← e];rfl)
          · have:=(ht.2.2.within _ e).1
            dsimp only at this
            have hb:=ht.2.1
            have:=z0K s.2 s.1
            have:=Nat.two_pow_pos s.1
            omega
      · obtain ⟨q,hq⟩:2 ^ x ∣ 2 ^ h:=Nat.pow_dvd_pow 2 c
        have hx:(2*k+1)*2 ^ h=2 ^ x*((2*k+1)*q):=by rw [hq,Nat.mul_left_comm]
        rw [hx,Nat.mul_comm] at c1
        rw [hx,Nat.mul_comm y] at c2
        have c1':2 ^ x*((2*k+1)*q)<2 ^ x*(y+1):=by rw [Nat.mul_comm (2 ^ x) (y+1),Nat.mul_comm (2 ^ x)];exact c1
        have e1:=Nat.lt_of_mul_lt_mul_left c1'
        have e2:=Nat.lt_of_mul_lt_mul_left c2
        omega
    · exact .inr c2
  · exact .inl c1
end Go.Proofs.YthpdlnbbbcgemaaGreatDoor
