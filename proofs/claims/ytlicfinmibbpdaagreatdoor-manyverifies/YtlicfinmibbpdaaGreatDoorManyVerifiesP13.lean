/- Texts of ManyVerifies, one behind the other: VerifyCount, StepLists, VerifyRefBagRegion. -/
import Derived.Deep.AppendLies
import Derived.Test.YtlicfinmibbpdaaGreatDoorManyVerifiesP12
namespace Go.Proofs.YtlicfinmibbpdaaGreatDoor
open Go.RowKit
set_option maxRecDepth 100000
def BAGA (d:Int) (n k:Nat) (l:List Int):Int × List Int:=
  if 4611686018427387904<n then (30,ZND) else if k≠PC n then (70,ZND) else (0,z0x d n (FLD d l k))
theorem z1Q {fn:Func} {p q:Tmp} {ty:TypeId} (h:fn.results=#[.cell p ty,.tmp q]) (tmps:Array Value) (w:World) (g:Nat) (t:TypeId) (cs:Array Value) (fr:Nat × Nat) (k:Nat) (el:TypeId) (v:Value)
    (hp:tmps.getD p undef=.pointer (some ⟨g,0,none⟩)) (hv:tmps.getD q undef=v) (hg:w.heap[g]?=some (.cells cs t fr))
    (hu:Tryz.prog.underlying ty=some (.array k el)) (hi:(Tryz.prog.info? ty).map (·.size)=some cs.size):
    (results fn tmps).run Tryz.prog w=.ok (.tuple #[.agg cs,v]) w:=by
  have hp':tmps[p]?.getD undef=.pointer (some ⟨g,0,none⟩):=by simpa using hp
  have hv':tmps[q]?.getD undef=v:=by simpa using hv
  simp [results,h,hp',hv',asAddr,run_loadVar_row w g t ty cs fr (.array k el) hg hu rfl hi]
set_option maxHeartbeats 4000000 in
theorem zby (d:Int) (n:Nat) (hn:n<2 ^ 64) (a:Option Addr) (k c:Nat) (w:World) (h1':¬ (4611686018427387904:Int)<(n:Int)) (h2:¬ k=POP n):
    Calls Tryz.prog 41 #[.int .i64 d,.int .u64 (n:Int),.slice a k c] w fun e w'=>e=.returned (.tuple #[.agg (z00 ZND).toArray,.int .i64 70])∧Below w.heap.size w w':=by
  have R0:Aside (Below w.heap.size w (w.alloc (.cells ZARR 38))∧Has (w.alloc (.cells ZARR 38)) w.heap.size (z00 ZND).toArray 38):=⟨(Below.refl _ _).alloc (Nat.le_refl _) _,by rw [z0Z];exact Has.new _ _ _⟩
  have cO:=z2T n hn (w.alloc (.cells ZARR 38))
  generalize POP n=pp at *
  have e2:¬ (k:Int)=(pp:Int):=by omega
  clear hn
  go_enter Tryz.func41,Tryz.ntmps41
  go_upto_region 3 with fail
  rw [show (#[.int .u8 0,.int .u8 0,.int .u8 0,.int .u8 0,.int .u8 0,.int .u8 0,.int .u8 0,.int .u8 0,.int .u8 0,.int .u8 0,.int .u8 0,.int .u8 0,.int .u8 0,.int .u8 0,.int .u8 0,.int .u8 0,.int .u8 0,.int .u8 0,.int .u8 0,.int .u8 0,.int .u8 0,.int .u8 0,.int .u8 0,.int .u8 0,.int .u8 0,.int .u8 0,.int .u8 0,.int .u8 0,.int .u8 0,.int .u8 0,.int .u8 0,.int .u8 0]:Array Value)=ZARR from rfl]
  generalize w.alloc (.cells ZARR 38)=W0 at *
  go_wp2_with fail
  refine cO.mono ?_
  rintro e w1 ⟨rfl,rfl⟩
  clear cO
  go_upto_region 4 with fail
  go_wp2_with (rw [show (#[.int .u8 0,.int .u8 0,.int .u8 0,.int .u8 0,.int .u8 0,.int .u8 0,.int .u8 0,.int .u8 0,.int .u8 0,.int .u8 0,.int .u8 0,.int .u8 0,.int .u8 0,.int .u8 0,.int .u8 0,.int .u8 0,.int .u8 0,.int .u8 0,.int .u8 0,.int .u8 0,.int .u8 0,.int .u8 0,.int .u8 0,.int .u8 0,.int .u8 0,.int .u8 0,.int .u8 0,.int .u8 0,.int .u8 0,.int .u8 0,.int .u8 0,.int .u8 0]:Array Value)=(z00 ZND).toArray from rfl];refine wpList_store_row rfl 38 (.tmp 6) (.tmp 16) rfl _ _ rfl rfl 38 _ R0.out.2 (z05 rfl) rfl (z0l ZND) ?_)
  refine bodyPost_ret (v:=.tuple #[.agg (z00 ZND).toArray,.int .i64 70]) (z1Q rfl _ _ w.heap.size 38 _ (0,0) _ _ _ rfl rfl (Has.row R0.out.2 _) Tryz.underlying38 (z05 rfl)) rfl ⟨rfl,z06 R0.out.1 (Nat.le_refl _) _⟩
end Go.Proofs.YtlicfinmibbpdaaGreatDoor

namespace Go.Proofs.YtlicfinmibbpdaaGreatDoor
open Go.RowKit
set_option maxRecDepth 100000
theorem zei {P:Program} {o:Oper} {a:Act} {w:World} {K K':Act→World→Prop} {Q Q':Exit→Act→World→Prop} (h:∀ a w,K a w→K' a w) (hq:∀ c a w,Q (.panic c) a w→Q' (.panic c) a w) (hl:LetsOut Q→LetsOut Q') (hh:o.wp P a w K Q):o.wp P a w K' Q':=by
  unfold Oper.wp at *
  generalize (execOp a.eval o).run P w=r at *
  cases r with
  | ok n w'=>
    cases n <;> simp only [Oper.upon] at hh ⊢ <;>
      first
        | exact h _ _ hh
        | exact Calls.mono hh (fun e w'' he=>by cases e <;> first | exact h _ _ he | exact hq _ _ _ he | exact hl he)
        | exact Rows.mono hh (fun _ _ he=>h _ _ he)
  | halt x w'=>cases x <;> simp only [Oper.upon] at hh ⊢ <;> first | exact hq _ _ _ hh | exact hh
theorem z0Y {P:Program} {ops:Array Oper} {o:Oper} {a:Act} {w:World} {K:Act→World→Prop} {Q:Exit→Act→World→Prop} {E:Prop} (hw:Region.wanted o (yielded ops a.tmps)=true)
    (h:wpList P ops (fun e a w=>e=Exit.normal∧K a w) [o] a w):if Region.wanted o (yielded ops a.tmps)=true then Oper.wp P o a w K Q else E:=by
  rw [if_pos hw]
  unfold wpList at h
  rw [if_pos hw] at h
  rcases h with h | ⟨_,a',w',h',_⟩
  · exact zei (fun a w h=>by unfold wpList at h;exact h.2) (fun c a w h=>by cases h.1) (fun h=>by obtain ⟨_,_,h,_⟩:=h;cases h) h
  · cases h'
theorem z0L {ops:Array Oper} {o:Oper} {a:Act} {w w':World} {K:Act→World→Prop} {Q:Exit→Act→World→Prop} {E:Prop} {v:Value} (hw:Region.wanted o (yielded ops a.tmps)=true)
    (hrun:(execOp a.eval o).run Tryz.prog w=.ok (.value v) w') (h:K (a.put o.dst v) w'):if Region.wanted o (yielded ops a.tmps)=true then Oper.wp Tryz.prog o a w K Q else E:=by
  rw [if_pos hw]
  unfold Oper.wp
  rw [hrun]
  exact h
end Go.Proofs.YtlicfinmibbpdaaGreatDoor

namespace Go.Proofs.YtlicfinmibbpdaaGreatDoor
open Go.RowKit
set_option maxRecDepth 100000
def z1G:Array Oper:=#[⟨some 39,.move (.tmp 0),3,"ref.go:24",#[],none⟩,⟨some 40,.move (.tmp 2),22,"ref.go:24",#[],none⟩,⟨some 41,.move (.tmp 9),3,"ref.go:24",#[],none⟩,⟨some 42,.indexAddr 22 (.tmp 40) (.tmp 41),0,"ref.go:24",#[⟨1,.data⟩,⟨2,.data⟩],none⟩,⟨some 43,.load 38 (.tmp 42),38,"ref.go:24",#[⟨3,.data⟩],none⟩,⟨some 44,.load 38 (.tmp 8),38,"ref.go:24",#[],none⟩,⟨some 45,.call {callee:=.value (.func 77),args:=#[.tmp 39,.tmp 43,.tmp 44],argTypes:=#[3,38,38]},38,"ref.go:24",#[⟨0,.data⟩,⟨4,.data⟩,⟨5,.data⟩],none⟩,⟨none,.store 38 (.tmp 8) (.tmp 45),0,"ref.go:24",#[⟨6,.data⟩,⟨6,.chain⟩,⟨0,.phase⟩,⟨1,.phase⟩,⟨2,.phase⟩,⟨3,.phase⟩,⟨4,.phase⟩,⟨5,.phase⟩,⟨6,.phase⟩],none⟩]
set_option maxHeartbeats 2000000 in
theorem z7D {Q:Exit→Act→World→Prop} {u1 u3 u4 u5 u6 u7 u10 u11 u12 u13 u14 u15 u16 u17 u18 u19 u20 u21 u22 u23 u24 u25 u26 u27 u28 u29 u30 u31 u32 u33 u34 u35 u36 u37 u38 u39 u40 u41 u42 u43 u44 u45 u46 u47 u48 u49:Value} (W:World) (gn o n c b q:Nat) (d:Int) (L X Y:List Int) (hL:L.length=32) (hX:X.length=32) (hY:Y.length=32) (hq:(q:Int)<(n:Int)) (I:World→Prop) (h0:I W.drew) (hI:∀ w,I w→w.rangeAt gn (o+q*32) (z00 L)∧Has w b (z00 X).toArray 38) (hRow:∀ w,I w→(w.setRow b (z00 Y).toArray).rangeAt gn (o+q*32) (z00 L))
    (q1:∀ w,I w→Calls Tryz.prog 77 #[.int .i64 d,.agg (z00 L).toArray,.agg (z00 X).toArray] w fun e w'=>e=.returned (.agg (z00 Y).toArray)∧I w') (hQ:∀ c (a:Act) (t:Tmp) (v:Value) w,Q (.panic c) (a.put (some t) v) w→Q (.panic c) a w)
    (hfin:∀ (w:World),(∃ w0:World,I w0∧w=w0.setRow b (z00 Y).toArray)→Q .normal {tmps:=#[.int .i64 d,u1,.slice (some ⟨gn,o,none⟩) n c,u3,u4,u5,u6,u7,.pointer (some ⟨b,0,none⟩),.int .i64 (q:Int),u10,u11,u12,u13,u14,u15,u16,u17,u18,u19,u20,u21,u22,u23,u24,u25,u26,u27,u28,u29,u30,u31,u32,u33,u34,u35,u36,u37,u38,.int .i64 d,.slice (some ⟨gn,o,none⟩) n c,.int .i64 (q:Int),.pointer (some ⟨gn,(o+q*32),none⟩),.agg (z00 L).toArray,.agg (z00 X).toArray,.agg (z00 Y).toArray,u46,u47,u48,u49],defers:=[]} w):(Code.region 11 z1G true).wp Tryz.prog Q {tmps:=#[.int .i64 d,u1,.slice (some ⟨gn,o,none⟩) n c,u3,u4,u5,u6,u7,.pointer (some ⟨b,0,none⟩),.int .i64 (q:Int),u10,u11,u12,u13,u14,u15,u16,u17,u18,u19,u20,u21,u22,u23,u24,u25,u26,u27,u28,u29,u30,u31,u32,u33,u34,u35,u36,u37,u38,u39,u40,u41,u42,u43,u44,u45,u46,u47,u48,u49],defers:=[]} W:=by
  have k5_6_7:∀ (w:World),(∃ w0:World,I w0∧w=w0.setRow b (z00 Y).toArray)→wpAnyH Tryz.prog .any z1G Q (fun w:World=>w.rangeAt gn (o+q*32) (z00 L)) 0 #[true,true,true,true,true,true,true,true] {tmps:=#[.int .i64 d,u1,.slice (some ⟨gn,o,none⟩) n c,u3,u4,u5,u6,u7,.pointer (some ⟨b,0,none⟩),.int .i64 (q:Int),u10,u11,u12,u13,u14,u15,u16,u17,u18,u19,u20,u21,u22,u23,u24,u25,u26,u27,u28,u29,u30,u31,u32,u33,u34,u35,u36,u37,u38,.int .i64 d,.slice (some ⟨gn,o,none⟩) n c,.int .i64 (q:Int),.pointer (some ⟨gn,(o+q*32),none⟩),.agg (z00 L).toArray,.agg (z00 X).toArray,.agg (z00 Y).toArray,u46,u47,u48,u49],defers:=[]} w:=fun  w hp=>by
    exact wpAnyH_done (by kernel_rfl) (hfin  w hp) _
  have k5_6:∀ (w:World),(I w)→wpAnyH Tryz.prog .any z1G Q (fun w:World=>w.rangeAt gn (o+q*32) (z00 L)) 1 #[true,true,true,true,true,true,true,false] {tmps:=#[.int .i64 d,u1,.slice (some ⟨gn,o,none⟩) n c,u3,u4,u5,u6,u7,.pointer (some ⟨b,0,none⟩),.int .i64 (q:Int),u10,u11,u12,u13,u14,u15,u16,u17,u18,u19,u20,u21,u22,u23,u24,u25,u26,u27,u28,u29,u30,u31,u32,u33,u34,u35,u36,u37,u38,.int .i64 d,.slice (some ⟨gn,o,none⟩) n c,.int .i64 (q:Int),.pointer (some ⟨gn,(o+q*32),none⟩),.agg (z00 L).toArray,.agg (z00 X).toArray,.agg (z00 Y).toArray,u46,u47,u48,u49],defers:=[]} w:=fun  w hp=>by
    refine wpAnyH_ready (rs:=[7]) (by kernel_rfl) (by simp) ?_
    refine AllReadyH.cons (o:=⟨none,.store 38 (.tmp 8) (.tmp 45),0,"ref.go:24",#[⟨6,.data⟩,⟨6,.chain⟩,⟨0,.phase⟩,⟨1,.phase⟩,⟨2,.phase⟩,⟨3,.phase⟩,⟨4,.phase⟩,⟨5,.phase⟩,⟨6,.phase⟩],none⟩) rfl (fun K hK=>?_) ?_
    · exact z0Y (by rfl) (wpList_store_row rfl 38 (.tmp 8) (.tmp 45) rfl _ _ rfl rfl 38 _ (hI _ hp).2 (z05 hY) (by simp [z00,hX,hY]) (z0l Y) ⟨rfl,(have hp:(fun (w:World)=>(∃ w0:World,I w0∧w=w0.setRow b (z00 Y).toArray))  _:=⟨w,hp,rfl⟩;hK.out _ _ ((by obtain ⟨w0,h1,h2⟩:=hp; (first | rw [h2] | skip);exact hRow _ h1)) (fun _=>k5_6_7  _ hp))⟩)
    exact AllReadyH.nil
  have k5:∀ (w:World),(I w)→wpAnyH Tryz.prog .any z1G Q (fun w:World=>w.rangeAt gn (o+q*32) (z00 L)) 2 #[true,true,true,true,true,true,false,false] {tmps:=#[.int .i64 d,u1,.slice (some ⟨gn,o,none⟩) n c,u3,u4,u5,u6,u7,.pointer (some ⟨b,0,none⟩),.int .i64 (q:Int),u10,u11,u12,u13,u14,u15,u16,u17,u18,u19,u20,u21,u22,u23,u24,u25,u26,u27,u28,u29,u30,u31,u32,u33,u34,u35,u36,u37,u38,.int .i64 d,.slice (some ⟨gn,o,none⟩) n c,.int .i64 (q:Int),.pointer (some ⟨gn,(o+q*32),none⟩),.agg (z00 L).toArray,.agg (z00 X).toArray,u45,u46,u47,u48,u49],defers:=[]} w:=fun  w hp=>by
    refine wpAnyH_ready (rs:=[6]) (by kernel_rfl) (by simp) ?_
    refine AllReadyH.cons (o:=⟨some 45,.call {callee:=.value (.func 77),args:=#[.tmp 39,.tmp 43,.tmp 44],argTypes:=#[3,38,38]},38,"ref.go:24",#[⟨0,.data⟩,⟨4,.data⟩,⟨5,.data⟩],none⟩) rfl (fun K hK=>?_) ?_
    · rw [if_pos (by rfl)]
      go_simp
      refine (show Calls _ _ _ w (fun e w'=>e=.returned (.agg (z00 Y).toArray)∧(I w')) from q1 w hp).mono ?_
      rintro e w' ⟨rfl,hp⟩
      exact hK.out _ _ ((hI _ hp).1) (fun _=>k5_6  w' hp)
    exact AllReadyH.nil
  have k:∀ (w:World),(I w)→wpAnyH Tryz.prog .any z1G Q (fun w:World=>w.rangeAt gn (o+q*32) (z00 L)) 3 #[true,true,true,true,true,false,false,false] {tmps:=#[.int .i64 d,u1,.slice (some ⟨gn,o,none⟩) n c,u3,u4,u5,u6,u7,.pointer (some ⟨b,0,none⟩),.int .i64 (q:Int),u10,u11,u12,u13,u14,u15,u16,u17,u18,u19,u20,u21,u22,u23,u24,u25,u26,u27,u28,u29,u30,u31,u32,u33,u34,u35,u36,u37,u38,.int .i64 d,.slice (some ⟨gn,o,none⟩) n c,.int .i64 (q:Int),.pointer (some ⟨gn,(o+q*32),none⟩),.agg (z00 L).toArray,u44,u45,u46,u47,u48,u49],defers:=[]} w:=fun  w hp=>by
    refine wpAnyH_ready (rs:=[5]) (by kernel_rfl) (by simp) ?_
    refine AllReadyH.cons (o:=⟨some 44,.load 38 (.tmp 8),38,"ref.go:24",#[],none⟩) rfl (fun K hK=>?_) ?_
    · exact z0Y (by rfl) (wpList_load_row rfl 38 (.tmp 8) rfl b rfl 38 (z00 X).toArray (0,0) _ (hI _ hp).2 Tryz.underlying38 rfl (z05 hX) ⟨rfl,(have hp:(fun (w:World)=>(I w))  w:=hp;hK.out _ _ ((hI _ hp).1) (fun _=>k5  _ hp))⟩)
    exact AllReadyH.nil
  have hp:=h0
  have hww:(fun w:World=>w.rangeAt gn (o+q*32) (z00 L)) W.drew:=(hI _ hp).1
  have last:=k W.drew hp
  have z:wpAnyH Tryz.prog .any z1G Q (fun w:World=>w.rangeAt gn (o+q*32) (z00 L)) 8 #[false,false,false,false,false,false,false,false] {tmps:=#[.int .i64 d,u1,.slice (some ⟨gn,o,none⟩) n c,u3,u4,u5,u6,u7,.pointer (some ⟨b,0,none⟩),.int .i64 (q:Int),u10,u11,u12,u13,u14,u15,u16,u17,u18,u19,u20,u21,u22,u23,u24,u25,u26,u27,u28,u29,u30,u31,u32,u33,u34,u35,u36,u37,u38,u39,u40,u41,u42,u43,u44,u45,u46,u47,u48,u49],defers:=[]} W.drew:=by
    have t4:wpAnyH Tryz.prog .any z1G Q (fun w:World=>w.rangeAt gn (o+q*32) (z00 L)) 4 #[true,true,true,true,false,false,false,false] {tmps:=#[.int .i64 d,u1,.slice (some ⟨gn,o,none⟩) n c,u3,u4,u5,u6,u7,.pointer (some ⟨b,0,none⟩),.int .i64 (q:Int),u10,u11,u12,u13,u14,u15,u16,u17,u18,u19,u20,u21,u22,u23,u24,u25,u26,u27,u28,u29,u30,u31,u32,u33,u34,u35,u36,u37,u38,.int .i64 d,.slice (some ⟨gn,o,none⟩) n c,.int .i64 (q:Int),.pointer (some ⟨gn,(o+q*32),none⟩),u43,u44,u45,u46,u47,u48,u49],defers:=[]} W.drew:=
      wpAnyH_take (i:=4) (oi:=⟨some 43,.load 38 (.tmp 42),38,"ref.go:24",#[⟨3,.data⟩],none⟩) (v:=.agg (z00 L).toArray) rfl (by kernel_rfl) (by kernel_rfl) (by kernel_rfl) (fun _ _ _ h=>hQ _ _ _ _ _ h) (yieldsIf_load_mid (by rfl) 38 (.tmp 42) rfl gn (o+q*32) rfl (z00 L) _ (fun w h=>h) Tryz.underlying38 rfl (z0j hL)) hww last
    have t3:wpAnyH Tryz.prog .any z1G Q (fun w:World=>w.rangeAt gn (o+q*32) (z00 L)) 5 #[true,true,true,false,false,false,false,false] {tmps:=#[.int .i64 d,u1,.slice (some ⟨gn,o,none⟩) n c,u3,u4,u5,u6,u7,.pointer (some ⟨b,0,none⟩),.int .i64 (q:Int),u10,u11,u12,u13,u14,u15,u16,u17,u18,u19,u20,u21,u22,u23,u24,u25,u26,u27,u28,u29,u30,u31,u32,u33,u34,u35,u36,u37,u38,.int .i64 d,.slice (some ⟨gn,o,none⟩) n c,.int .i64 (q:Int),u42,u43,u44,u45,u46,u47,u48,u49],defers:=[]} W.drew:=
      wpAnyH_take (i:=3) (oi:=⟨some 42,.indexAddr 22 (.tmp 40) (.tmp 41),0,"ref.go:24",#[⟨1,.data⟩,⟨2,.data⟩],none⟩) (v:=.pointer (some ⟨gn,(o+q*32),none⟩)) rfl (by kernel_rfl) (by kernel_rfl) (by kernel_rfl) (fun _ _ _ h=>hQ _ _ _ _ _ h) (Yields.yieldsIf (Or.inl ⟨by rfl,fun W=>by go_simp⟩)) hww t4
    have t2:wpAnyH Tryz.prog .any z1G Q (fun w:World=>w.rangeAt gn (o+q*32) (z00 L)) 6 #[true,true,false,false,false,false,false,false] {tmps:=#[.int .i64 d,u1,.slice (some ⟨gn,o,none⟩) n c,u3,u4,u5,u6,u7,.pointer (some ⟨b,0,none⟩),.int .i64 (q:Int),u10,u11,u12,u13,u14,u15,u16,u17,u18,u19,u20,u21,u22,u23,u24,u25,u26,u27,u28,u29,u30,u31,u32,u33,u34,u35,u36,u37,u38,.int .i64 d,.slice (some ⟨gn,o,none⟩) n c,u41,u42,u43,u44,u45,u46,u47,u48,u49],defers:=[]} W.drew:=
      wpAnyH_take (i:=2) (oi:=⟨some 41,.move (.tmp 9),3,"ref.go:24",#[],none⟩) (v:=.int .i64 (q:Int)) rfl (by kernel_rfl) (by kernel_rfl) (by kernel_rfl) (fun _ _ _ h=>hQ _ _ _ _ _ h) (Yields.yieldsIf (Or.inl ⟨by rfl,fun W=>by go_simp⟩)) hww t3
    have t1:wpAnyH Tryz.prog .any z1G Q (fun w:World=>w.rangeAt gn (o+q*32) (z00 L)) 7 #[true,false,false,false,false,false,false,false] {tmps:=#[.int .i64 d,u1,.slice (some ⟨gn,o,none⟩) n c,u3,u4,u5,u6,u7,.pointer (some ⟨b,0,none⟩),.int .i64 (q:Int),u10,u11,u12,u13,u14,u15,u16,u17,u18,u19,u20,u21,u22,u23,u24,u25,u26,u27,u28,u29,u30,u31,u32,u33,u34,u35,u36,u37,u38,.int .i64 d,u40,u41,u42,u43,u44,u45,u46,u47,u48,u49],defers:=[]} W.drew:=
      wpAnyH_take (i:=1) (oi:=⟨some 40,.move (.tmp 2),22,"ref.go:24",#[],none⟩) (v:=.slice (some ⟨gn,o,none⟩) n c) rfl (by kernel_rfl) (by kernel_rfl) (by kernel_rfl) (fun _ _ _ h=>hQ _ _ _ _ _ h) (Yields.yieldsIf (Or.inl ⟨by rfl,fun W=>by go_simp⟩)) hww t2
    have t0:wpAnyH Tryz.prog .any z1G Q (fun w:World=>w.rangeAt gn (o+q*32) (z00 L)) 8 #[false,false,false,false,false,false,false,false] {tmps:=#[.int .i64 d,u1,.slice (some ⟨gn,o,none⟩) n c,u3,u4,u5,u6,u7,.pointer (some ⟨b,0,none⟩),.int .i64 (q:Int),u10,u11,u12,u13,u14,u15,u16,u17,u18,u19,u20,u21,u22,u23,u24,u25,u26,u27,u28,u29,u30,u31,u32,u33,u34,u35,u36,u37,u38,u39,u40,u41,u42,u43,u44,u45,u46,u47,u48,u49],defers:=[]} W.drew:=
      wpAnyH_take (i:=0) (oi:=⟨some 39,.move (.tmp 0),3,"ref.go:24",#[],none⟩) (v:=.int .i64 d) rfl (by kernel_rfl) (by kernel_rfl) (by kernel_rfl) (fun _ _ _ h=>hQ _ _ _ _ _ h) (Yields.yieldsIf (Or.inl ⟨by rfl,fun W=>by go_simp⟩)) hww t1
    exact t0
  exact wp_region_held_drew (S:=(fun w:World=>w.rangeAt gn (o+q*32) (z00 L))) (by kernel_rfl) hww (fun _=>z)
end Go.Proofs.YtlicfinmibbpdaaGreatDoor
