/- Texts of ClashForks, one behind the other: VerifyRefReachRegion, VerifySpotRow. -/
import Derived.Laws.AppendOwnNone
import Derived.Test.YthpdlnbbbcgemaaGreatDoorClashForksP33
namespace Go.Proofs.YthpdlnbbbcgemaaGreatDoor
open Go.RowKit
set_option maxRecDepth 100000
def z0J:Array Oper:=#[⟨some 51,.move (.tmp 0),3,"ref.go:87",#[],none⟩,⟨some 52,.move (.tmp 11),76,"ref.go:87",#[],none⟩,⟨some 53,.move (.tmp 14),3,"ref.go:87",#[],none⟩,⟨some 54,.indexAddr 76 (.tmp 52) (.tmp 53),0,"ref.go:87",#[⟨1,.data⟩,⟨2,.data⟩],none⟩,⟨some 55,.load 79 (.tmp 54),79,"ref.go:87",#[⟨3,.data⟩],none⟩,⟨some 56,.move (.tmp 9),76,"ref.go:87",#[],none⟩,⟨some 57,.fieldAddr 50 (.tmp 3) 2,0,"ref.go:87",#[],none⟩,⟨some 58,.load 40 (.tmp 57),40,"ref.go:87",#[⟨6,.data⟩],none⟩,⟨some 59,.move (.tmp 13),3,"ref.go:87",#[],none⟩,⟨some 60,.call {callee:=.value (.func 39),args:=#[.tmp 51,.tmp 55,.tmp 56,.tmp 58,.tmp 59],argTypes:=#[3,79,76,40,3]},85,"ref.go:87",#[⟨0,.data⟩,⟨4,.data⟩,⟨5,.data⟩,⟨7,.data⟩,⟨8,.data⟩],none⟩,⟨some 50,.move (.tmp 60),85,"ref.go:87",#[⟨9,.data⟩],none⟩,⟨some 61,.extract (.tmp 50) 0,24,"ref.go:87",#[⟨10,.data⟩],none⟩,⟨some 62,.extract (.tmp 50) 1,3,"ref.go:87",#[⟨10,.data⟩,{on:=13,ground:=.gcOnly Departure.lateStores}],none⟩,⟨none,.store 24 (.tmp 15) (.tmp 61),0,"ref.go:87",#[⟨11,.data⟩,⟨9,.chain⟩,⟨0,.phase⟩,⟨1,.phase⟩,⟨2,.phase⟩,⟨3,.phase⟩,⟨4,.phase⟩,⟨5,.phase⟩,⟨6,.phase⟩,⟨7,.phase⟩,⟨8,.phase⟩,⟨9,.phase⟩,⟨10,.phase⟩,⟨11,.phase⟩,{on:=12,ground:=.textOnly Departure.lateStores}],none⟩,⟨some 13,.assign (.tmp 62),3,"ref.go:87",#[⟨12,.data⟩,⟨13,.chain⟩,⟨0,.phase⟩,⟨1,.phase⟩,⟨2,.phase⟩,⟨3,.phase⟩,⟨4,.phase⟩,⟨5,.phase⟩,⟨6,.phase⟩,⟨7,.phase⟩,⟨8,.phase⟩,⟨9,.phase⟩,⟨10,.phase⟩,⟨11,.phase⟩,⟨12,.phase⟩,⟨13,.phase⟩],none⟩]
set_option maxHeartbeats 2000000 in
theorem zc2 {Q:Exit→Act→World→Prop} {u1 u2 u4 u5 u6 u7 u8 u10 u12 u16 u17 u18 u19 u20 u21 u22 u23 u24 u25 u26 u27 u28 u29 u30 u31 u32 u33 u34 u35 u36 u37 u38 u39 u40 u41 u42 u43 u44 u45 u46 u47 u48 u49 u50 u51 u52 u53 u54 u55 u56 u57 u58 u59 u60 u61 u62 u63 u64 u65 u66 u67 u68:Value} (W:World) (d:Int) (b3 bx gt mt ct i p p2 h k n:Nat) (ra:Option Addr) (rc:Nat) (a:Option Addr) (c:Nat) (X Y:List Int) (x32:X.length=32) (y32:Y.length=32) (hi:(i:Int)<(mt:Int)) (ne1:gt≠bx) (ne2:b3≠bx) (P0 P1:World→Prop) (h0:P0 W.drew) (s0:∀ w,P0 w→(fun w:World=>w.cell? ⟨gt,i*2,none⟩=some (.int .u8 (h:Int))∧w.cell? ⟨gt,i*2+1,none⟩=some (.int .u64 (k:Int))∧w.cell? ⟨b3,2,none⟩=some (.slice a n c)) w) (s1:∀ w,P1 w→(fun w:World=>w.cell? ⟨gt,i*2,none⟩=some (.int .u8 (h:Int))∧w.cell? ⟨gt,i*2+1,none⟩=some (.int .u64 (k:Int))∧w.cell? ⟨b3,2,none⟩=some (.slice a n c)) w) (h2:∀ w,P1 w→Has w bx (z01 X).toArray 24)
    (q1:∀ w,P0 w→Calls Tryz.prog 39 #[.int .i64 d,.agg #[.int .u8 (h:Int),.int .u64 (k:Int)],.slice ra n rc,.slice a n c,.int .i64 (p:Int)] w fun e w'=>e=.returned (.tuple #[.agg (z01 Y).toArray,.int .i64 (p2:Int)])∧P1 w') (hQ:∀ c (a:Act) (t:Tmp) (v:Value) w,Q (.panic c) (a.put (some t) v) w→Q (.panic c) a w)
    (hfin:∀ (w:World),(∃ wx:World,P1 wx∧w=wx.setRow bx (z01 Y).toArray)→Q .normal {tmps:=#[.int .i64 d,u1,u2,.pointer (some ⟨b3,0,none⟩),u4,u5,u6,u7,u8,.slice ra n rc,u10,.slice (some ⟨gt,0,none⟩) mt ct,u12,.int .i64 (p2:Int),.int .i64 (i:Int),.pointer (some ⟨bx,0,none⟩),u16,u17,u18,u19,u20,u21,u22,u23,u24,u25,u26,u27,u28,u29,u30,u31,u32,u33,u34,u35,u36,u37,u38,u39,u40,u41,u42,u43,u44,u45,u46,u47,u48,u49,.tuple #[.agg (z01 Y).toArray,.int .i64 (p2:Int)],.int .i64 d,.slice (some ⟨gt,0,none⟩) mt ct,.int .i64 (i:Int),.pointer (some ⟨gt,i*2,none⟩),.agg #[.int .u8 (h:Int),.int .u64 (k:Int)],.slice ra n rc,.pointer (some ⟨b3,2,none⟩),.slice a n c,.int .i64 (p:Int),.tuple #[.agg (z01 Y).toArray,.int .i64 (p2:Int)],.agg (z01 Y).toArray,.int .i64 (p2:Int),u63,u64,u65,u66,u67,u68],defers:=[]} w):(Code.region 14 z0J true).wp Tryz.prog Q {tmps:=#[.int .i64 d,u1,u2,.pointer (some ⟨b3,0,none⟩),u4,u5,u6,u7,u8,.slice ra n rc,u10,.slice (some ⟨gt,0,none⟩) mt ct,u12,.int .i64 (p:Int),.int .i64 (i:Int),.pointer (some ⟨bx,0,none⟩),u16,u17,u18,u19,u20,u21,u22,u23,u24,u25,u26,u27,u28,u29,u30,u31,u32,u33,u34,u35,u36,u37,u38,u39,u40,u41,u42,u43,u44,u45,u46,u47,u48,u49,u50,u51,u52,u53,u54,u55,u56,u57,u58,u59,u60,u61,u62,u63,u64,u65,u66,u67,u68],defers:=[]} W:=by
  have kst9_13:∀ (w:World),(∃ wx:World,P1 wx∧w=wx.setRow bx (z01 Y).toArray)→wpAnyH Tryz.prog .any z0J Q (fun w:World=>w.cell? ⟨gt,i*2,none⟩=some (.int .u8 (h:Int))∧w.cell? ⟨gt,i*2+1,none⟩=some (.int .u64 (k:Int))∧w.cell? ⟨b3,2,none⟩=some (.slice a n c)) 0 #[true,true,true,true,true,true,true,true,true,true,true,true,true,true,true] {tmps:=#[.int .i64 d,u1,u2,.pointer (some ⟨b3,0,none⟩),u4,u5,u6,u7,u8,.slice ra n rc,u10,.slice (some ⟨gt,0,none⟩) mt ct,u12,.int .i64 (p2:Int),.int .i64 (i:Int),.pointer (some ⟨bx,0,none⟩),u16,u17,u18,u19,u20,u21,u22,u23,u24,u25,u26,u27,u28,u29,u30,u31,u32,u33,u34,u35,u36,u37,u38,u39,u40,u41,u42,u43,u44,u45,u46,u47,u48,u49,.tuple #[.agg (z01 Y).toArray,.int .i64 (p2:Int)],.int .i64 d,.slice (some ⟨gt,0,none⟩) mt ct,.int .i64 (i:Int),.pointer (some ⟨gt,i*2,none⟩),.agg #[.int .u8 (h:Int),.int .u64 (k:Int)],.slice ra n rc,.pointer (some ⟨b3,2,none⟩),.slice a n c,.int .i64 (p:Int),.tuple #[.agg (z01 Y).toArray,.int .i64 (p2:Int)],.agg (z01 Y).toArray,.int .i64 (p2:Int),u63,u64,u65,u66,u67,u68],defers:=[]} w:=fun  w hp=>by
    exact wpAnyH_done (by kernel_rfl) (hfin  w hp) _
  have ekst9_13:∀ (w:World),(∃ wx:World,P1 wx∧w=wx.setRow bx (z01 Y).toArray)→wpAnyH Tryz.prog .any z0J Q (fun w:World=>w.cell? ⟨gt,i*2,none⟩=some (.int .u8 (h:Int))∧w.cell? ⟨gt,i*2+1,none⟩=some (.int .u64 (k:Int))∧w.cell? ⟨b3,2,none⟩=some (.slice a n c)) 1 #[true,true,true,true,true,true,true,true,true,true,true,true,true,true,false] {tmps:=#[.int .i64 d,u1,u2,.pointer (some ⟨b3,0,none⟩),u4,u5,u6,u7,u8,.slice ra n rc,u10,.slice (some ⟨gt,0,none⟩) mt ct,u12,.int .i64 (p:Int),.int .i64 (i:Int),.pointer (some ⟨bx,0,none⟩),u16,u17,u18,u19,u20,u21,u22,u23,u24,u25,u26,u27,u28,u29,u30,u31,u32,u33,u34,u35,u36,u37,u38,u39,u40,u41,u42,u43,u44,u45,u46,u47,u48,u49,.tuple #[.agg (z01 Y).toArray,.int .i64 (p2:Int)],.int .i64 d,.slice (some ⟨gt,0,none⟩) mt ct,.int .i64 (i:Int),.pointer (some ⟨gt,i*2,none⟩),.agg #[.int .u8 (h:Int),.int .u64 (k:Int)],.slice ra n rc,.pointer (some ⟨b3,2,none⟩),.slice a n c,.int .i64 (p:Int),.tuple #[.agg (z01 Y).toArray,.int .i64 (p2:Int)],.agg (z01 Y).toArray,.int .i64 (p2:Int),u63,u64,u65,u66,u67,u68],defers:=[]} w:=fun  w hp=>by
    have hww:(fun w:World=>w.cell? ⟨gt,i*2,none⟩=some (.int .u8 (h:Int))∧w.cell? ⟨gt,i*2+1,none⟩=some (.int .u64 (k:Int))∧w.cell? ⟨b3,2,none⟩=some (.slice a n c)) w:=(by obtain ⟨wx,h1,h2⟩:=hp; (first | rw [h2] | skip);have h3:=s1 _ h1;exact ⟨(World.cell?_of_block (w:=wx) (by exact setRow_other wx bx gt _ ne1)).trans h3.1,(World.cell?_of_block (w:=wx) (by exact setRow_other wx bx gt _ ne1)).trans h3.2.1,(World.cell?_of_block (w:=wx) (by exact setRow_other wx bx b3 _ ne2)).trans h3.2.2⟩)
    have last:=kst9_13  w hp
    have t14:wpAnyH Tryz.prog .any z0J Q (fun w:World=>w.cell? ⟨gt,i*2,none⟩=some (.int .u8 (h:Int))∧w.cell? ⟨gt,i*2+1,none⟩=some (.int .u64 (k:Int))∧w.cell? ⟨b3,2,none⟩=some (.slice a n c)) 1 #[true,true,true,true,true,true,true,true,true,true,true,true,true,true,false] {tmps:=#[.int .i64 d,u1,u2,.pointer (some ⟨b3,0,none⟩),u4,u5,u6,u7,u8,.slice ra n rc,u10,.slice (some ⟨gt,0,none⟩) mt ct,u12,.int .i64 (p:Int),.int .i64 (i:Int),.pointer (some ⟨bx,0,none⟩),u16,u17,u18,u19,u20,u21,u22,u23,u24,u25,u26,u27,u28,u29,u30,u31,u32,u33,u34,u35,u36,u37,u38,u39,u40,u41,u42,u43,u44,u45,u46,u47,u48,u49,.tuple #[.agg (z01 Y).toArray,.int .i64 (p2:Int)],.int .i64 d,.slice (some ⟨gt,0,none⟩) mt ct,.int .i64 (i:Int),.pointer (some ⟨gt,i*2,none⟩),.agg #[.int .u8 (h:Int),.int .u64 (k:Int)],.slice ra n rc,.pointer (some ⟨b3,2,none⟩),.slice a n c,.int .i64 (p:Int),.tuple #[.agg (z01 Y).toArray,.int .i64 (p2:Int)],.agg (z01 Y).toArray,.int .i64 (p2:Int),u63,u64,u65,u66,u67,u68],defers:=[]} w:=
      wpAnyH_take (i:=14) (oi:=⟨some 13,.assign (.tmp 62),3,"ref.go:87",#[⟨12,.data⟩,⟨13,.chain⟩,⟨0,.phase⟩,⟨1,.phase⟩,⟨2,.phase⟩,⟨3,.phase⟩,⟨4,.phase⟩,⟨5,.phase⟩,⟨6,.phase⟩,⟨7,.phase⟩,⟨8,.phase⟩,⟨9,.phase⟩,⟨10,.phase⟩,⟨11,.phase⟩,⟨12,.phase⟩,⟨13,.phase⟩],none⟩) (v:=.int .i64 (p2:Int)) rfl (by kernel_rfl) (by kernel_rfl) (by kernel_rfl) (fun _ _ _ h=>hQ _ _ _ _ _ h) (Yields.yieldsIf (Or.inl ⟨by rfl,fun W=>by go_simp⟩)) hww last
    exact t14
  have kst9:∀ (w:World),(P1 w)→wpAnyH Tryz.prog .any z0J Q (fun w:World=>w.cell? ⟨gt,i*2,none⟩=some (.int .u8 (h:Int))∧w.cell? ⟨gt,i*2+1,none⟩=some (.int .u64 (k:Int))∧w.cell? ⟨b3,2,none⟩=some (.slice a n c)) 2 #[true,true,true,true,true,true,true,true,true,true,true,true,true,false,false] {tmps:=#[.int .i64 d,u1,u2,.pointer (some ⟨b3,0,none⟩),u4,u5,u6,u7,u8,.slice ra n rc,u10,.slice (some ⟨gt,0,none⟩) mt ct,u12,.int .i64 (p:Int),.int .i64 (i:Int),.pointer (some ⟨bx,0,none⟩),u16,u17,u18,u19,u20,u21,u22,u23,u24,u25,u26,u27,u28,u29,u30,u31,u32,u33,u34,u35,u36,u37,u38,u39,u40,u41,u42,u43,u44,u45,u46,u47,u48,u49,.tuple #[.agg (z01 Y).toArray,.int .i64 (p2:Int)],.int .i64 d,.slice (some ⟨gt,0,none⟩) mt ct,.int .i64 (i:Int),.pointer (some ⟨gt,i*2,none⟩),.agg #[.int .u8 (h:Int),.int .u64 (k:Int)],.slice ra n rc,.pointer (some ⟨b3,2,none⟩),.slice a n c,.int .i64 (p:Int),.tuple #[.agg (z01 Y).toArray,.int .i64 (p2:Int)],.agg (z01 Y).toArray,.int .i64 (p2:Int),u63,u64,u65,u66,u67,u68],defers:=[]} w:=fun  w hp=>by
    refine wpAnyH_ready (rs:=[13]) (by kernel_rfl) (by simp) ?_
    refine AllReadyH.cons (o:=⟨none,.store 24 (.tmp 15) (.tmp 61),0,"ref.go:87",#[⟨11,.data⟩,⟨9,.chain⟩,⟨0,.phase⟩,⟨1,.phase⟩,⟨2,.phase⟩,⟨3,.phase⟩,⟨4,.phase⟩,⟨5,.phase⟩,⟨6,.phase⟩,⟨7,.phase⟩,⟨8,.phase⟩,⟨9,.phase⟩,⟨10,.phase⟩,⟨11,.phase⟩,{on:=12,ground:=.textOnly Departure.lateStores}],none⟩) rfl (fun KQ hKQ=>?_) ?_
    · exact z3l (by rfl) (wpList_store_row rfl 24 (.tmp 15) (.tmp 61) rfl bx (z01 Y).toArray rfl rfl 24 (z01 X).toArray (h2 _ hp) (z02 y32) (by simp [z01,x32,y32]) (z0m Y) ⟨rfl,(have hp:(fun (w:World)=>(∃ wx:World,P1 wx∧w=wx.setRow bx (z01 Y).toArray))  _:=⟨w,hp,rfl⟩;hKQ.out _ _ ((by obtain ⟨wx,h1,h2⟩:=hp; (first | rw [h2] | skip);have h3:=s1 _ h1;exact ⟨(World.cell?_of_block (w:=wx) (by exact setRow_other wx bx gt _ ne1)).trans h3.1,(World.cell?_of_block (w:=wx) (by exact setRow_other wx bx gt _ ne1)).trans h3.2.1,(World.cell?_of_block (w:=wx) (by exact setRow_other wx bx b3 _ ne2)).trans h3.2.2⟩)) (fun _=>ekst9_13  _ hp))⟩)
    exact AllReadyH.nil
  have ekst_9:∀ (w:World),(P1 w)→wpAnyH Tryz.prog .any z0J Q (fun w:World=>w.cell? ⟨gt,i*2,none⟩=some (.int .u8 (h:Int))∧w.cell? ⟨gt,i*2+1,none⟩=some (.int .u64 (k:Int))∧w.cell? ⟨b3,2,none⟩=some (.slice a n c)) 5 #[true,true,true,true,true,true,true,true,true,true,false,false,false,false,false] {tmps:=#[.int .i64 d,u1,u2,.pointer (some ⟨b3,0,none⟩),u4,u5,u6,u7,u8,.slice ra n rc,u10,.slice (some ⟨gt,0,none⟩) mt ct,u12,.int .i64 (p:Int),.int .i64 (i:Int),.pointer (some ⟨bx,0,none⟩),u16,u17,u18,u19,u20,u21,u22,u23,u24,u25,u26,u27,u28,u29,u30,u31,u32,u33,u34,u35,u36,u37,u38,u39,u40,u41,u42,u43,u44,u45,u46,u47,u48,u49,u50,.int .i64 d,.slice (some ⟨gt,0,none⟩) mt ct,.int .i64 (i:Int),.pointer (some ⟨gt,i*2,none⟩),.agg #[.int .u8 (h:Int),.int .u64 (k:Int)],.slice ra n rc,.pointer (some ⟨b3,2,none⟩),.slice a n c,.int .i64 (p:Int),.tuple #[.agg (z01 Y).toArray,.int .i64 (p2:Int)],u61,u62,u63,u64,u65,u66,u67,u68],defers:=[]} w:=fun  w hp=>by
    have hww:(fun w:World=>w.cell? ⟨gt,i*2,none⟩=some (.int .u8 (h:Int))∧w.cell? ⟨gt,i*2+1,none⟩=some (.int .u64 (k:Int))∧w.cell? ⟨b3,2,none⟩=some (.slice a n c)) w:=s1 _ hp
    have last:=kst9  w hp
    have t12:wpAnyH Tryz.prog .any z0J Q (fun w:World=>w.cell? ⟨gt,i*2,none⟩=some (.int .u8 (h:Int))∧w.cell? ⟨gt,i*2+1,none⟩=some (.int .u64 (k:Int))∧w.cell? ⟨b3,2,none⟩=some (.slice a n c)) 3 #[true,true,true,true,true,true,true,true,true,true,true,true,false,false,false] {tmps:=#[.int .i64 d,u1,u2,.pointer (some ⟨b3,0,none⟩),u4,u5,u6,u7,u8,.slice ra n rc,u10,.slice (some ⟨gt,0,none⟩) mt ct,u12,.int .i64 (p:Int),.int .i64 (i:Int),.pointer (some ⟨bx,0,none⟩),u16,u17,u18,u19,u20,u21,u22,u23,u24,u25,u26,u27,u28,u29,u30,u31,u32,u33,u34,u35,u36,u37,u38,u39,u40,u41,u42,u43,u44,u45,u46,u47,u48,u49,.tuple #[.agg (z01 Y).toArray,.int .i64 (p2:Int)],.int .i64 d,.slice (some ⟨gt,0,none⟩) mt ct,.int .i64 (i:Int),.pointer (some ⟨gt,i*2,none⟩),.agg #[.int .u8 (h:Int),.int .u64 (k:Int)],.slice ra n rc,.pointer (some ⟨b3,2,none⟩),.slice a n c,.int .i64 (p:Int),.tuple #[.agg (z01 Y).toArray,.int .i64 (p2:Int)],.agg (z01 Y).toArray,u62,u63,u64,u65,u66,u67,u68],defers:=[]} w:=
      wpAnyH_take (i:=12) (oi:=⟨some 62,.extract (.tmp 50) 1,3,"ref.go:87",#[⟨10,.data⟩,{on:=13,ground:=.gcOnly Departure.lateStores}],none⟩) (v:=.int .i64 (p2:Int)) rfl (by kernel_rfl) (by kernel_rfl) (by kernel_rfl) (fun _ _ _ h=>hQ _ _ _ _ _ h) (Yields.yieldsIf (Or.inl ⟨by rfl,fun W=>by go_simp⟩)) hww last
    have t11:wpAnyH Tryz.prog .any z0J Q (fun w:World=>w.cell? ⟨gt,i*2,none⟩=some (.int .u8 (h:Int))∧w.cell? ⟨gt,i*2+1,none⟩=some (.int .u64 (k:Int))∧w.cell? ⟨b3,2,none⟩=some (.slice a n c)) 4 #[true,true,true,true,true,true,true,true,true,true,true,false,false,false,false] {tmps:=#[.int .i64 d,u1,u2,.pointer (some ⟨b3,0,none⟩),u4,u5,u6,u7,u8,.slice ra n rc,u10,.slice (some ⟨gt,0,none⟩) mt ct,u12,.int .i64 (p:Int),.int .i64 (i:Int),.pointer (some ⟨bx,0,none⟩),u16,u17,u18,u19,u20,u21,u22,u23,u24,u25,u26,u27,u28,u29,u30,u31,u32,u33,u34,u35,u36,u37,u38,u39,u40,u41,u42,u43,u44,u45,u46,u47,u48,u49,.tuple #[.agg (z01 Y).toArray,.int .i64 (p2:Int)],.int .i64 d,.slice (some ⟨gt,0,none⟩) mt ct,.int .i64 (i:Int),.pointer (some ⟨gt,i*2,none⟩),.agg #[.int .u8 (h:Int),.int .u64 (k:Int)],.slice ra n rc,.pointer (some ⟨b3,2,none⟩),.slice a n c,.int .i64 (p:Int),.tuple #[.agg (z01 Y).toArray,.int .i64 (p2:Int)],u61,u62,u63,u64,u65,u66,u67,u68],defers:=[]} w:=
      wpAnyH_take (i:=11) (oi:=⟨some 61,.extract (.tmp 50) 0,24,"ref.go:87",#[⟨10,.data⟩],none⟩) (v:=.agg (z01 Y).toArray) rfl (by kernel_rfl) (by kernel_rfl) (by kernel_rfl) (fun _ _ _ h=>hQ _ _ _ _ _ h) (Yields.yieldsIf (Or.inl ⟨by rfl,fun W=>by go_simp⟩)) hww t12
    have t10:wpAnyH Tryz.prog .any z0J Q (fun w:World=>w.cell? ⟨gt,i*2,none⟩=some (.int .u8 (h:Int))∧w.cell? ⟨gt,i*2+1,none⟩=some (.int .u64 (k:Int))∧w.cell? ⟨b3,2,none⟩=some (.slice a n c)) 5 #[true,true,true,true,true,true,true,true,true,true,false,false,false,false,false] {tmps:=#[.int .i64 d,u1,u2,.pointer (some ⟨b3,0,none⟩),u4,u5,u6,u7,u8,.slice ra n rc,u10,.slice (some ⟨gt,0,none⟩) mt ct,u12,.int .i64 (p:Int),.int .i64 (i:Int),.pointer (some ⟨bx,0,none⟩),u16,u17,u18,u19,u20,u21,u22,u23,u24,u25,u26,u27,u28,u29,u30,u31,u32,u33,u34,u35,u36,u37,u38,u39,u40,u41,u42,u43,u44,u45,u46,u47,u48,u49,u50,.int .i64 d,.slice (some ⟨gt,0,none⟩) mt ct,.int .i64 (i:Int),.pointer (some ⟨gt,i*2,none⟩),.agg #[.int .u8 (h:Int),.int .u64 (k:Int)],.slice ra n rc,.pointer (some ⟨b3,2,none⟩),.slice a n c,.int .i64 (p:Int),.tuple #[.agg (z01 Y).toArray,.int .i64 (p2:Int)],u61,u62,u63,u64,u65,u66,u67,u68],defers:=[]} w:=
      wpAnyH_take (i:=10) (oi:=⟨some 50,.move (.tmp 60),85,"ref.go:87",#[⟨9,.data⟩],none⟩) (v:=.tuple #[.agg (z01 Y).toArray,.int .i64 (p2:Int)]) rfl (by kernel_rfl) (by kernel_rfl) (by kernel_rfl) (fun _ _ _ h=>hQ _ _ _ _ _ h) (Yields.yieldsIf (Or.inl ⟨by rfl,fun W=>by go_simp⟩)) hww t11
    exact t10
  have kst:∀ (w:World),(P0 w)→wpAnyH Tryz.prog .any z0J Q (fun w:World=>w.cell? ⟨gt,i*2,none⟩=some (.int .u8 (h:Int))∧w.cell? ⟨gt,i*2+1,none⟩=some (.int .u64 (k:Int))∧w.cell? ⟨b3,2,none⟩=some (.slice a n c)) 6 #[true,true,true,true,true,true,true,true,true,false,false,false,false,false,false] {tmps:=#[.int .i64 d,u1,u2,.pointer (some ⟨b3,0,none⟩),u4,u5,u6,u7,u8,.slice ra n rc,u10,.slice (some ⟨gt,0,none⟩) mt ct,u12,.int .i64 (p:Int),.int .i64 (i:Int),.pointer (some ⟨bx,0,none⟩),u16,u17,u18,u19,u20,u21,u22,u23,u24,u25,u26,u27,u28,u29,u30,u31,u32,u33,u34,u35,u36,u37,u38,u39,u40,u41,u42,u43,u44,u45,u46,u47,u48,u49,u50,.int .i64 d,.slice (some ⟨gt,0,none⟩) mt ct,.int .i64 (i:Int),.pointer (some ⟨gt,i*2,none⟩),.agg #[.int .u8 (h:Int),.int .u64 (k:Int)],.slice ra n rc,.pointer (some ⟨b3,2,none⟩),.slice a n c,.int .i64 (p:Int),u60,u61,u62,u63,u64,u65,u66,u67,u68],defers:=[]} w:=fun  w hp=>by
    refine wpAnyH_ready (rs:=[9]) (by kernel_rfl) (by simp) ?_
    refine AllReadyH.cons (o:=⟨some 60,.call {callee:=.value (.func 39),args:=#[.tmp 51,.tmp 55,.tmp 56,.tmp 58,.tmp 59],argTypes:=#[3,79,76,40,3]},85,"ref.go:87",#[⟨0,.data⟩,⟨4,.data⟩,⟨5,.data⟩,⟨7,.data⟩,⟨8,.data⟩],none⟩) rfl (fun KQ hKQ=>?_) ?_
    · rw [if_pos (by rfl)]
      go_simp
      refine (show Calls _ _ _ w (fun e w'=>e=.returned (.tuple #[.agg (z01 Y).toArray,.int .i64 (p2:Int)])∧(P1 w')) from q1 w hp).mono ?_
      rintro e w' ⟨rfl,hp⟩
      exact hKQ.out _ _ (s1 _ hp) (fun _=>ekst_9  w' hp)
    exact AllReadyH.nil
  have hp:=h0
  have hww:(fun w:World=>w.cell? ⟨gt,i*2,none⟩=some (.int .u8 (h:Int))∧w.cell? ⟨gt,i*2+1,none⟩=some (.int .u64 (k:Int))∧w.cell? ⟨b3,2,none⟩=some (.slice a n c)) W.drew:=s0 _ hp
  have last:=kst W.drew hp
  have z:wpAnyH Tryz.prog .any z0J Q (fun w:World=>w.cell? ⟨gt,i*2,none⟩=some (.int .u8 (h:Int))∧w.cell? ⟨gt,i*2+1,none⟩=some (.int .u64 (k:Int))∧w.cell? ⟨b3,2,none⟩=some (.slice a n c)) 15 #[false,false,false,false,false,false,false,false,false,false,false,false,false,false,false] {tmps:=#[.int .i64 d,u1,u2,.pointer (some ⟨b3,0,none⟩),u4,u5,u6,u7,u8,.slice ra n rc,u10,.slice (some ⟨gt,0,none⟩) mt ct,u12,.int .i64 (p:Int),.int .i64 (i:Int),.pointer (some ⟨bx,0,none⟩),u16,u17,u18,u19,u20,u21,u22,u23,u24,u25,u26,u27,u28,u29,u30,u31,u32,u33,u34,u35,u36,u37,u38,u39,u40,u41,u42,u43,u44,u45,u46,u47,u48,u49,u50,u51,u52,u53,u54,u55,u56,u57,u58,u59,u60,u61,u62,u63,u64,u65,u66,u67,u68],defers:=[]} W.drew:=by
    have t8:wpAnyH Tryz.prog .any z0J Q (fun w:World=>w.cell? ⟨gt,i*2,none⟩=some (.int .u8 (h:Int))∧w.cell? ⟨gt,i*2+1,none⟩=some (.int .u64 (k:Int))∧w.cell? ⟨b3,2,none⟩=some (.slice a n c)) 7 #[true,true,true,true,true,true,true,true,false,false,false,false,false,false,false] {tmps:=#[.int .i64 d,u1,u2,.pointer (some ⟨b3,0,none⟩),u4,u5,u6,u7,u8,.slice ra n rc,u10,.slice (some ⟨gt,0,none⟩) mt ct,u12,.int .i64 (p:Int),.int .i64 (i:Int),.pointer (some ⟨bx,0,none⟩),u16,u17,u18,u19,u20,u21,u22,u23,u24,u25,u26,u27,u28,u29,u30,u31,u32,u33,u34,u35,u36,u37,u38,u39,u40,u41,u42,u43,u44,u45,u46,u47,u48,u49,u50,.int .i64 d,.slice (some ⟨gt,0,none⟩) mt ct,.int .i64 (i:Int),.pointer (some ⟨gt,i*2,none⟩),.agg #[.int .u8 (h:Int),.int .u64 (k:Int)],.slice ra n rc,.pointer (some ⟨b3,2,none⟩),.slice a n c,u59,u60,u61,u62,u63,u64,u65,u66,u67,u68],defers:=[]} W.drew:=
      wpAnyH_take (i:=8) (oi:=⟨some 59,.move (.tmp 13),3,"ref.go:87",#[],none⟩) (v:=.int .i64 (p:Int)) rfl (by kernel_rfl) (by kernel_rfl) (by kernel_rfl) (fun _ _ _ h=>hQ _ _ _ _ _ h) (Yields.yieldsIf (Or.inl ⟨by rfl,fun W=>by go_simp⟩)) hww last
    have t7:wpAnyH Tryz.prog .any z0J Q (fun w:World=>w.cell? ⟨gt,i*2,none⟩=some (.int .u8 (h:Int))∧w.cell? ⟨gt,i*2+1,none⟩=some (.int .u64 (k:Int))∧w.cell? ⟨b3,2,none⟩=some (.slice a n c)) 8 #[true,true,true,true,true,true,true,false,false,false,false,false,false,false,false] {tmps:=#[.int .i64 d,u1,u2,.pointer (some ⟨b3,0,none⟩),u4,u5,u6,u7,u8,.slice ra n rc,u10,.slice (some ⟨gt,0,none⟩) mt ct,u12,.int .i64 (p:Int),.int .i64 (i:Int),.pointer (some ⟨bx,0,none⟩),u16,u17,u18,u19,u20,u21,u22,u23,u24,u25,u26,u27,u28,u29,u30,u31,u32,u33,u34,u35,u36,u37,u38,u39,u40,u41,u42,u43,u44,u45,u46,u47,u48,u49,u50,.int .i64 d,.slice (some ⟨gt,0,none⟩) mt ct,.int .i64 (i:Int),.pointer (some ⟨gt,i*2,none⟩),.agg #[.int .u8 (h:Int),.int .u64 (k:Int)],.slice ra n rc,.pointer (some ⟨b3,2,none⟩),u58,u59,u60,u61,u62,u63,u64,u65,u66,u67,u68],defers:=[]} W.drew:=
      wpAnyH_take (i:=7) (oi:=⟨some 58,.load 40 (.tmp 57),40,"ref.go:87",#[⟨6,.data⟩],none⟩) (v:=.slice a n c) rfl (by kernel_rfl) (by kernel_rfl) (by kernel_rfl) (fun _ _ _ h=>hQ _ _ _ _ _ h) (Or.inl ⟨by rfl,fun w hw=>by have hx:=hw.2.2;go_simp⟩) hww t8
    have t6:wpAnyH Tryz.prog .any z0J Q (fun w:World=>w.cell? ⟨gt,i*2,none⟩=some (.int .u8 (h:Int))∧w.cell? ⟨gt,i*2+1,none⟩=some (.int .u64 (k:Int))∧w.cell? ⟨b3,2,none⟩=some (.slice a n c)) 9 #[true,true,true,true,true,true,false,false,false,false,false,false,false,false,false] {tmps:=#[.int .i64 d,u1,u2,.pointer (some ⟨b3,0,none⟩),u4,u5,u6,u7,u8,.slice ra n rc,u10,.slice (some ⟨gt,0,none⟩) mt ct,u12,.int .i64 (p:Int),.int .i64 (i:Int),.pointer (some ⟨bx,0,none⟩),u16,u17,u18,u19,u20,u21,u22,u23,u24,u25,u26,u27,u28,u29,u30,u31,u32,u33,u34,u35,u36,u37,u38,u39,u40,u41,u42,u43,u44,u45,u46,u47,u48,u49,u50,.int .i64 d,.slice (some ⟨gt,0,none⟩) mt ct,.int .i64 (i:Int),.pointer (some ⟨gt,i*2,none⟩),.agg #[.int .u8 (h:Int),.int .u64 (k:Int)],.slice ra n rc,u57,u58,u59,u60,u61,u62,u63,u64,u65,u66,u67,u68],defers:=[]} W.drew:=
      wpAnyH_take (i:=6) (oi:=⟨some 57,.fieldAddr 50 (.tmp 3) 2,0,"ref.go:87",#[],none⟩) (v:=.pointer (some ⟨b3,2,none⟩)) rfl (by kernel_rfl) (by kernel_rfl) (by kernel_rfl) (fun _ _ _ h=>hQ _ _ _ _ _ h) (Yields.yieldsIf (Or.inl ⟨by rfl,fun W=>by go_simp⟩)) hww t7
    have t5:wpAnyH Tryz.prog .any z0J Q (fun w:World=>w.cell? ⟨gt,i*2,none⟩=some (.int .u8 (h:Int))∧w.cell? ⟨gt,i*2+1,none⟩=some (.int .u64 (k:Int))∧w.cell? ⟨b3,2,none⟩=some (.slice a n c)) 10 #[true,true,true,true,true,false,false,false,false,false,false,false,false,false,false] {tmps:=#[.int .i64 d,u1,u2,.pointer (some ⟨b3,0,none⟩),u4,u5,u6,u7,u8,.slice ra n rc,u10,.slice (some ⟨gt,0,none⟩) mt ct,u12,.int .i64 (p:Int),.int .i64 (i:Int),.pointer (some ⟨bx,0,none⟩),u16,u17,u18,u19,u20,u21,u22,u23,u24,u25,u26,u27,u28,u29,u30,u31,u32,u33,u34,u35,u36,u37,u38,u39,u40,u41,u42,u43,u44,u45,u46,u47,u48,u49,u50,.int .i64 d,.slice (some ⟨gt,0,none⟩) mt ct,.int .i64 (i:Int),.pointer (some ⟨gt,i*2,none⟩),.agg #[.int .u8 (h:Int),.int .u64 (k:Int)],u56,u57,u58,u59,u60,u61,u62,u63,u64,u65,u66,u67,u68],defers:=[]} W.drew:=
      wpAnyH_take (i:=5) (oi:=⟨some 56,.move (.tmp 9),76,"ref.go:87",#[],none⟩) (v:=.slice ra n rc) rfl (by kernel_rfl) (by kernel_rfl) (by kernel_rfl) (fun _ _ _ h=>hQ _ _ _ _ _ h) (Yields.yieldsIf (Or.inl ⟨by rfl,fun W=>by go_simp⟩)) hww t6
    have t4:wpAnyH Tryz.prog .any z0J Q (fun w:World=>w.cell? ⟨gt,i*2,none⟩=some (.int .u8 (h:Int))∧w.cell? ⟨gt,i*2+1,none⟩=some (.int .u64 (k:Int))∧w.cell? ⟨b3,2,none⟩=some (.slice a n c)) 11 #[true,true,true,true,false,false,false,false,false,false,false,false,false,false,false] {tmps:=#[.int .i64 d,u1,u2,.pointer (some ⟨b3,0,none⟩),u4,u5,u6,u7,u8,.slice ra n rc,u10,.slice (some ⟨gt,0,none⟩) mt ct,u12,.int .i64 (p:Int),.int .i64 (i:Int),.pointer (some ⟨bx,0,none⟩),u16,u17,u18,u19,u20,u21,u22,u23,u24,u25,u26,u27,u28,u29,u30,u31,u32,u33,u34,u35,u36,u37,u38,u39,u40,u41,u42,u43,u44,u45,u46,u47,u48,u49,u50,.int .i64 d,.slice (some ⟨gt,0,none⟩) mt ct,.int .i64 (i:Int),.pointer (some ⟨gt,i*2,none⟩),u55,u56,u57,u58,u59,u60,u61,u62,u63,u64,u65,u66,u67,u68],defers:=[]} W.drew:=
      wpAnyH_take (i:=4) (oi:=⟨some 55,.load 79 (.tmp 54),79,"ref.go:87",#[⟨3,.data⟩],none⟩) (v:=.agg #[.int .u8 (h:Int),.int .u64 (k:Int)]) rfl (by kernel_rfl) (by kernel_rfl) (by kernel_rfl) (fun _ _ _ h=>hQ _ _ _ _ _ h) (Or.inl ⟨by rfl,fun w hw=>by have hx:=hw.1;have hy:=hw.2.1;go_simp⟩) hww t5
    have t3:wpAnyH Tryz.prog .any z0J Q (fun w:World=>w.cell? ⟨gt,i*2,none⟩=some (.int .u8 (h:Int))∧w.cell? ⟨gt,i*2+1,none⟩=some (.int .u64 (k:Int))∧w.cell? ⟨b3,2,none⟩=some (.slice a n c)) 12 #[true,true,true,false,false,false,false,false,false,false,false,false,false,false,false] {tmps:=#[.int .i64 d,u1,u2,.pointer (some ⟨b3,0,none⟩),u4,u5,u6,u7,u8,.slice ra n rc,u10,.slice (some ⟨gt,0,none⟩) mt ct,u12,.int .i64 (p:Int),.int .i64 (i:Int),.pointer (some ⟨bx,0,none⟩),u16,u17,u18,u19,u20,u21,u22,u23,u24,u25,u26,u27,u28,u29,u30,u31,u32,u33,u34,u35,u36,u37,u38,u39,u40,u41,u42,u43,u44,u45,u46,u47,u48,u49,u50,.int .i64 d,.slice (some ⟨gt,0,none⟩) mt ct,.int .i64 (i:Int),u54,u55,u56,u57,u58,u59,u60,u61,u62,u63,u64,u65,u66,u67,u68],defers:=[]} W.drew:=
      wpAnyH_take (i:=3) (oi:=⟨some 54,.indexAddr 76 (.tmp 52) (.tmp 53),0,"ref.go:87",#[⟨1,.data⟩,⟨2,.data⟩],none⟩) (v:=.pointer (some ⟨gt,i*2,none⟩)) rfl (by kernel_rfl) (by kernel_rfl) (by kernel_rfl) (fun _ _ _ h=>hQ _ _ _ _ _ h) (Or.inl ⟨by rfl,fun w hw=>by have hx:=hi;go_simp⟩) hww t4
    have t2:wpAnyH Tryz.prog .any z0J Q (fun w:World=>w.cell? ⟨gt,i*2,none⟩=some (.int .u8 (h:Int))∧w.cell? ⟨gt,i*2+1,none⟩=some (.int .u64 (k:Int))∧w.cell? ⟨b3,2,none⟩=some (.slice a n c)) 13 #[true,true,false,false,false,false,false,false,false,false,false,false,false,false,false] {tmps:=#[.int .i64 d,u1,u2,.pointer (some ⟨b3,0,none⟩),u4,u5,u6,u7,u8,.slice ra n rc,u10,.slice (some ⟨gt,0,none⟩) mt ct,u12,.int .i64 (p:Int),.int .i64 (i:Int),.pointer (some ⟨bx,0,none⟩),u16,u17,u18,u19,u20,u21,u22,u23,u24,u25,u26,u27,u28,u29,u30,u31,u32,u33,u34,u35,u36,u37,u38,u39,u40,u41,u42,u43,u44,u45,u46,u47,u48,u49,u50,.int .i64 d,.slice (some ⟨gt,0,none⟩) mt ct,u53,u54,u55,u56,u57,u58,u59,u60,u61,u62,u63,u64,u65,u66,u67,u68],defers:=[]} W.drew:=
      wpAnyH_take (i:=2) (oi:=⟨some 53,.move (.tmp 14),3,"ref.go:87",#[],none⟩) (v:=.int .i64 (i:Int)) rfl (by kernel_rfl) (by kernel_rfl) (by kernel_rfl) (fun _ _ _ h=>hQ _ _ _ _ _ h) (Yields.yieldsIf (Or.inl ⟨by rfl,fun W=>by go_simp⟩)) hww t3
    have t1:wpAnyH Tryz.prog .any z0J Q (fun w:World=>w.cell? ⟨gt,i*2,none⟩=some (.int .u8 (h:Int))∧w.cell? ⟨gt,i*2+1,none⟩=some (.int .u64 (k:Int))∧w.cell? ⟨b3,2,none⟩=some (.slice a n c)) 14 #[true,false,false,false,false,false,false,false,false,false,false,false,false,false,false] {tmps:=#[.int .i64 d,u1,u2,.pointer (some ⟨b3,0,none⟩),u4,u5,u6,u7,u8,.slice ra n rc,u10,.slice (some ⟨gt,0,none⟩) mt ct,u12,.int .i64 (p:Int),.int .i64 (i:Int),.pointer (some ⟨bx,0,none⟩),u16,u17,u18,u19,u20,u21,u22,u23,u24,u25,u26,u27,u28,u29,u30,u31,u32,u33,u34,u35,u36,u37,u38,u39,u40,u41,u42,u43,u44,u45,u46,u47,u48,u49,u50,.int .i64 d,u52,u53,u54,u55,u56,u57,u58,u59,u60,u61,u62,u63,u64,u65,u66,u67,u68],defers:=[]} W.drew:=
      wpAnyH_take (i:=1) (oi:=⟨some 52,.move (.tmp 11),76,"ref.go:87",#[],none⟩) (v:=.slice (some ⟨gt,0,none⟩) mt ct) rfl (by kernel_rfl) (by kernel_rfl) (by kernel_rfl) (fun _ _ _ h=>hQ _ _ _ _ _ h) (Yields.yieldsIf (Or.inl ⟨by rfl,fun W=>by go_simp⟩)) hww t2
    have t0:wpAnyH Tryz.prog .any z0J Q (fun w:World=>w.cell? ⟨gt,i*2,none⟩=some (.int .u8 (h:Int))∧w.cell? ⟨gt,i*2+1,none⟩=some (.int .u64 (k:Int))∧w.cell? ⟨b3,2,none⟩=some (.slice a n c)) 15 #[false,false,false,false,false,false,false,false,false,false,false,false,false,false,false] {tmps:=#[.int .i64 d,u1,u2,.pointer (some ⟨b3,0,none⟩),u4,u5,u6,u7,u8,.slice ra n rc,u10,.slice (some ⟨gt,0,none⟩) mt ct,u12,.int .i64 (p:Int),.int .i64 (i:Int),.pointer (some ⟨bx,0,none⟩),u16,u17,u18,u19,u20,u21,u22,u23,u24,u25,u26,u27,u28,u29,u30,u31,u32,u33,u34,u35,u36,u37,u38,u39,u40,u41,u42,u43,u44,u45,u46,u47,u48,u49,u50,u51,u52,u53,u54,u55,u56,u57,u58,u59,u60,u61,u62,u63,u64,u65,u66,u67,u68],defers:=[]} W.drew:=
      wpAnyH_take (i:=0) (oi:=⟨some 51,.move (.tmp 0),3,"ref.go:87",#[],none⟩) (v:=.int .i64 d) rfl (by kernel_rfl) (by kernel_rfl) (by kernel_rfl) (fun _ _ _ h=>hQ _ _ _ _ _ h) (Yields.yieldsIf (Or.inl ⟨by rfl,fun W=>by go_simp⟩)) hww t1
    exact t0
  exact wp_region_held_drew (S:=(fun w:World=>w.cell? ⟨gt,i*2,none⟩=some (.int .u8 (h:Int))∧w.cell? ⟨gt,i*2+1,none⟩=some (.int .u64 (k:Int))∧w.cell? ⟨b3,2,none⟩=some (.slice a n c))) (by kernel_rfl) hww (fun _=>z)
end Go.Proofs.YthpdlnbbbcgemaaGreatDoor

namespace Go.Proofs.YthpdlnbbbcgemaaGreatDoor
open Go.RowKit
set_option maxRecDepth 100000
theorem z27 {w:World} {B s n:Nat} {t:TypeId} {v:Value} {xs:List Value} (h:w.ownsRow B t s v n xs):∃ a c,v=.slice a n c:=by
  rcases h.2 with ⟨e,h0⟩ | ⟨g,cap,cur,e,_⟩
  · exact ⟨none,0,by rw [e,h0]⟩
  · exact ⟨_,_,e⟩
theorem za4 (l k:List (Nat × Nat)):z05 (l ++ k)=z05 l ++ z05 k:=by unfold z05;rw [List.flatMap_append]
theorem za5 (l:List (Nat × Nat)):∀ u∈z05 l,u.oneCell'=true:=fun u hu=>by
  unfold z05 at hu
  obtain ⟨x,_,hx⟩:=List.mem_flatMap.1 hu
  simp at hx
  rcases hx with rfl | rfl <;> rfl
theorem zc3 {ops:Array Oper} {rest:List Oper} {o:Oper} {a:Act} {Q:Exit→Act→World→Prop} (w:World) (hgd:o.guard=none) (s x:Operand)
    (ho:o.op=.call {callee:=.builtin .append,args:=#[s,x],argTypes:=#[76,76]})
    (base:Nat) (v:Value) (n:Nat) (xs:List (Nat × Nat)) (hs:a.eval s=v) (hown:w.ownsRow base 79 2 v n (z05 xs))
    (B:Nat) (ad:Option Addr) (m c:Nat) (l:List (Nat × Nat)) (hx:a.eval x=.slice ad m c) (hsrc:w.ownsRow B 79 2 (.slice ad m c) m (z05 l))
    (hb:n+m≤2 ^ 26) (hbase:base≤w.heap.size)
    (hh:∀ a' c' w',w'.ownsRow base 79 2 (.slice a' (n+m) c') (n+m) (z05 (xs ++ l))→w.grownBy w' v.ownBlock→wpList Tryz.prog ops Q rest (a.put o.dst (.slice a' (n+m) c')) w'):wpList Tryz.prog ops Q (o :: rest) a w:=by
  obtain ⟨i,hi,hz,hs1,hby⟩:=info_parts z7l
  have hlm:(z05 l).length=m*2:=hsrc.1
  cases ad with
  | none=>
    have h0:m=0∧c=0:=by
      rcases hsrc.2 with ⟨e,h0⟩ | ⟨_,_,_,e,_⟩
      · cases e;exact ⟨rfl,rfl⟩
      · cases e
    obtain ⟨rfl,rfl⟩:=h0
    have hl0:l=[]:=by
      cases l with
      | nil=>rfl
      | cons y l=>simp [z05] at hlm
    subst hl0
    refine wpList_append_own_none hgd s x 76 ho base 79 i 2 Tryz.underlying76 hi v n (z05 xs) hs hown hx ?_
    obtain ⟨a',c',rfl⟩:=z27 hown
    have:=hh a' c' w (by simpa using hown) ⟨rfl,rfl,rfl,Nat.le_refl _,fun _ _ _=>rfl⟩
    simpa using this
  | some ad=>
    obtain ⟨g,rfl⟩:∃ g,ad=⟨g,0,none⟩:=by
      rcases hsrc.2 with ⟨e,h0⟩ | ⟨g,_,_,e,_⟩
      · cases e
      · cases e;exact ⟨g,rfl⟩
    refine wpList_append_own w hgd s x 76 ho base 79 i _ 2 16 Tryz.underlying76 hi hz hs1 hby rfl (by decide) v n (z05 xs) hs hown ⟨g,0,none⟩ m c (z05 l) hx hlm (fun j u hu=>?_) (za5 l) (by simp only [maxLen];omega) (by omega) hbase ?_
    · have hj:j<m*2:=by rw [← hlm];exact (List.getElem?_eq_some_iff.1 hu).1
      rw [show (⟨g,0,none⟩:Addr).add j=⟨g,j,none⟩ by unfold Addr.add;split <;> simp_all]
      exact (hsrc.cellAt j hj).trans hu
    · intro v' w' h1 h2 _
      obtain ⟨a',c',rfl⟩:=z27 h1
      rw [← za4] at h1
      exact hh a' c' w' h1 h2
theorem zdt {n:Nat} (hn:n≤4611686018427387904):TOPS 0 n=SPAN 0 n:=by
  have hl:=z3G (n:=n) (by omega) 0 (by omega)
  rw [Nat.pow_zero,Nat.div_one] at hl
  refine List.ext_getElem? fun j=>?_
  by_cases hj:j<PC n
  · rw [zfD (by omega) hj,z1Q hn hj]
  · rw [List.getElem?_eq_none (by omega),List.getElem?_eq_none (by rw [z0r hn];omega)]
theorem z5W (n:Nat) (hn:n≤4611686018427387904) (w:World):Calls Tryz.prog 32 #[.int .u64 (n:Int)] w fun e w'=>
    ∃ a c,e=.returned (.slice a (PC n) c)∧w'.ownsRow w.heap.size 79 2 (.slice a (PC n) c) (PC n) (z05 (SPAN 0 n))∧Below w.heap.size w w':=by
  refine (z6X n hn w).mono ?_
  rintro e w' ⟨v,rfl,ho,hb⟩
  obtain ⟨a,c,rfl⟩:=z27 ho
  rw [zdt hn] at ho
  exact ⟨a,c,rfl,ho,hb⟩
theorem zf4 (a b:Nat) (hab:a≤b) (hb:b≤4611686018427387904) (w:World):Calls Tryz.prog 38 #[.int .u64 (a:Int),.int .u64 (b:Int)] w fun e w'=>
    ∃ ad c,e=.returned (.slice ad (SPAN a b).length c)∧w'.ownsRow w.heap.size 79 2 (.slice ad (SPAN a b).length c) (SPAN a b).length (z05 (SPAN a b))∧Below w.heap.size w w':=by
  rcases Nat.eq_or_lt_of_le hab with e | h
  · subst e
    refine (z4D a a (.inl (Nat.le_refl _)) w).mono ?_
    rintro e w' ⟨rfl,rfl⟩
    rw [z0W (Nat.le_refl _)]
    exact ⟨none,0,rfl,World.ownsRow_nil _ _ _ _,Below.refl _ _⟩
  · refine (z6b a b h hb w).mono ?_
    rintro e w' ⟨v,rfl,ho,hb⟩
    obtain ⟨ad,c,rfl⟩:=z27 ho
    exact ⟨ad,c,rfl,ho,hb⟩
theorem Flat.take {w:World} {a:Option Addr} {n:Nat} {l:List Int} (h:Flat w a n l) {m:Nat} (hm:m≤n):Flat w a m (l.take (32*m)):=by
  refine ⟨by rw [List.length_take,h.1];omega,fun h0=>?_,fun x hx=>h.2.2 x (List.mem_of_mem_take hx)⟩
  obtain ⟨b,o,e,hb,hc⟩:=h.2.1 (by omega)
  refine ⟨b,o,e,hb,fun j hj=>?_⟩
  rw [hc j (by omega)]
  congr 2
  rw [List.getD_eq_getElem?_getD,List.getD_eq_getElem?_getD,List.getElem?_take,if_pos (by omega)]
theorem z4Y {d:Int} {F S t:Nat} (hFS:F≤S) (hS:S≤4611686018427387904) (hL:LOWS F t) (l:List Int):∀ m,m≤PC F→CAT (RCM d (JSX F S t) F S l) ((SPAN 0 F).take m)=l.take (32*m)
  | 0,_=>by simp [CAT]
  | m + 1,hm=>by
    have hlt:m<(SPAN 0 F).length:=by rw [z0r (by omega)];omega
    obtain ⟨⟨h,k⟩,e⟩:∃ s,(SPAN 0 F)[m]?=some s:=⟨_,List.getElem?_eq_getElem hlt⟩
    have hso:=(z1w hFS hS).off
    have e2:(PXS F S)[m]?=some (h,k):=by
      unfold PXS
      rw [List.getElem?_append_left hlt]
      exact e
    rw [z5L e,z4Y hFS hS hL l m (by omega),z3e]
    congr 1
    unfold RCM
    rw [z6r hFS hS hL _ (List.mem_of_getElem? e2) _ (Nat.le_refl _),z38 hso e2 _ (List.getElem?_eq_some_iff.1 e2).1 (Nat.le_refl _)]
theorem z7R {M M':Nat→Nat→List Int} {ss:List (Nat × Nat)} (h:∀ x y,(x,y)∈ss→M x y=M' x y):CAT M ss=CAT M' ss:=by
  unfold CAT
  induction ss with
  | nil=>rfl
  | cons s ss ih=>
    rw [List.flatMap_cons,List.flatMap_cons,h s.1 s.2 List.mem_cons_self,ih fun x y hxy=>h x y (List.mem_cons_of_mem _ hxy)]
theorem zf5 {F S h k p:Nat} (hFS:F≤S) (hS:S≤4611686018427387904) (hm:(h,k)∈SPAN 0 S):∀ s∈(PXS F S).drop p,(s.2+1)*2 ^ s.1≤(k+1)*2 ^ h∨(k+1)*2 ^ h≤s.2*2 ^ s.1:=by
  intro s hs
  obtain ⟨_,w2,_⟩:=(z1w hFS hS).within s (List.mem_of_mem_drop hs)
  have hpar:S<(k / 2+1)*2 ^ (h+1):=by
    obtain ⟨i,hi⟩:=List.mem_iff_getElem?.1 hm
    have hi2:i<PC S:=by
      rw [← z0r hS]
      exact (List.getElem?_eq_some_iff.1 hi).1
    have hat:=z1Q hS hi2
    rw [hi] at hat
    simp only [Option.some.injEq,Prod.mk.injEq] at hat
    rcases Nat.lt_or_ge S ((k / 2+1)*2 ^ (h+1)) with c | c
    · exact c
    · exfalso
      have h1:=z6W c
      have h2:=z3F (n:=S) (i:=i)
      rw [← hat.1,← hat.2] at h2
      omega
  obtain ⟨x,y⟩:=s
  dsimp only at *
  rcases Nat.lt_or_ge ((k+1)*2 ^ h) ((y+1)*2 ^ x) with c1 | c1
  · rcases Nat.lt_or_ge (y*2 ^ x) ((k+1)*2 ^ h) with c2 | c2
    · exfalso
      rcases Nat.lt_or_ge h x with c | c
      · obtain ⟨q,hq⟩:2 ^ (h+1) ∣ 2 ^ x:=Nat.pow_dvd_pow 2 c
        have hu:=z25 h
        have e1:(k+1)*2 ^ h≤(k / 2+1)*2 ^ (h+1):=by
          rw [hu,← Nat.mul_assoc]
          exact Nat.mul_le_mul_right _ (by omega)
        have e2:(k / 2+1)*2 ^ (h+1)≤(k+2)*2 ^ h:=by
          rw [hu,← Nat.mul_assoc]
          exact Nat.mul_le_mul_right _ (by omega)
        have e3:=z0K (k+1) h
        have hx:(y+1)*2 ^ x=2 ^ (h+1)*((y+1)*q):=by rw [hq,Nat.mul_left_comm]
        rw [hx] at c1 w2
        have c1':2 ^ h*(k+1)<2 ^ h*(2*((y+1)*q)):=by rw [← Nat.mul_assoc,Nat.mul_comm (2 ^ h) 2,← hu,Nat.mul_comm (2 ^ h)];exact c1
        have g1:=Nat.lt_of_mul_lt_mul_left c1'
        have g2:(k / 2+1)≤(y+1)*q:=by omega
        have g3:(k / 2+1)*2 ^ (h+1)≤2 ^ (h+1)*((y+1)*q):=by
          rw [Nat.mul_comm]
          exact Nat.mul_le_mul_left _ g2
        omega
      · obtain ⟨q,hq⟩:2 ^ x ∣ 2 ^ h:=Nat.pow_dvd_pow 2 c
        have hx:(k+1)*2 ^ h=2 ^ x*((k+1)*q):=by rw [hq,Nat.mul_left_comm]
        rw [hx] at c1 c2
        have c1':2 ^ x*((k+1)*q)<2 ^ x*(y+1):=by rw [Nat.mul_comm (2 ^ x) (y+1)];exact c1
        have c2':2 ^ x*y<2 ^ x*((k+1)*q):=by rw [Nat.mul_comm (2 ^ x) y];exact c2
        have g1:=Nat.lt_of_mul_lt_mul_left c1'
        have g2:=Nat.lt_of_mul_lt_mul_left c2'
        omega
    · exact .inr c2
  · exact .inl c1
end Go.Proofs.YthpdlnbbbcgemaaGreatDoor
