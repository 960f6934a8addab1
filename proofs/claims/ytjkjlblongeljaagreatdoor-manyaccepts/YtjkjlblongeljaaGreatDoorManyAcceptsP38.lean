/- Texts of ManyAccepts, one behind the other: MmrFoldRegion, MmrBag, MmrOldCalls, VerifyAcceptsPlain, VerifyReachPlain, VerifyRefClimbRegions, VerifyRefClimb, VerifyRefOver, VerifyRefReachRegion, VerifySpotRow, ManyTreeBytes, ManyStays2. -/
import Derived.BigQuiet
import Derived.Laws.AppendOwnNone
import Derived.Test.YtjkjlblongeljaaGreatDoorManyAcceptsP37
namespace Go.Proofs.YtjkjlblongeljaaGreatDoor.HX
open Go.RowKit
set_option maxRecDepth 100000
def z1H:Array Oper:=#[⟨some 25,.move (.tmp 0),3,"grow.go:30",#[],none⟩,⟨some 26,.move (.tmp 1),22,"grow.go:30",#[],none⟩,⟨some 27,.move (.tmp 7),3,"grow.go:30",#[],none⟩,⟨some 28,.indexAddr 22 (.tmp 26) (.tmp 27),0,"grow.go:30",#[⟨1,.data⟩,⟨2,.data⟩],none⟩,⟨some 29,.load 35 (.tmp 28),35,"grow.go:30",#[⟨3,.data⟩],none⟩,⟨some 30,.load 35 (.tmp 6),35,"grow.go:30",#[],none⟩,⟨some 31,.call {callee:=.value (.func 123),args:=#[.tmp 25,.tmp 29,.tmp 30],argTypes:=#[3,35,35]},35,"grow.go:30",#[⟨0,.data⟩,⟨4,.data⟩,⟨5,.data⟩],none⟩,⟨none,.store 35 (.tmp 6) (.tmp 31),0,"grow.go:30",#[⟨6,.data⟩,⟨6,.chain⟩,⟨0,.phase⟩,⟨1,.phase⟩,⟨2,.phase⟩,⟨3,.phase⟩,⟨4,.phase⟩,⟨5,.phase⟩,⟨6,.phase⟩],none⟩]
set_option maxHeartbeats 2000000 in
theorem z9b {Q:Exit→Act→World→Prop} {u2 u3 u4 u5 u8 u9 u10 u11 u12 u13 u14 u15 u16 u17 u18 u19 u20 u21 u22 u23 u24 u25 u26 u27 u28 u29 u30 u31 u32:Value} (W:World) (gn o n c b q:Nat) (d:Int) (l x y:Nat→Nat) (hq:(q:Int)<(n:Int)) (I:World→Prop) (h0:I W.drew) (hI:∀ w,I w→w.rangeAt gn (o+q*32) (z02 .u8 32 l)∧Has w b (UARR .u8 32 x) 35) (hRow:∀ w,I w→(w.setRow b (UARR .u8 32 y)).rangeAt gn (o+q*32) (z02 .u8 32 l))
    (c1:∀ w,I w→Calls Tryz.prog 123 #[.int .i64 d,.agg (UARR .u8 32 l),.agg (UARR .u8 32 x)] w fun e w'=>e=.returned (.agg (UARR .u8 32 y))∧I w') (hQ:∀ c (a:Act) (t:Tmp) (v:Value) w,Q (.panic c) (a.put (some t) v) w→Q (.panic c) a w)
    (hfin:∀ (w:World),(∃ w0:World,I w0∧w=w0.setRow b (UARR .u8 32 y))→Q .normal {tmps:=#[.int .i64 d,.slice (some ⟨gn,o,none⟩) n c,u2,u3,u4,u5,.pointer (some ⟨b,0,none⟩),.int .i64 (q:Int),u8,u9,u10,u11,u12,u13,u14,u15,u16,u17,u18,u19,u20,u21,u22,u23,u24,.int .i64 d,.slice (some ⟨gn,o,none⟩) n c,.int .i64 (q:Int),.pointer (some ⟨gn,(o+q*32),none⟩),.agg (UARR .u8 32 l),.agg (UARR .u8 32 x),.agg (UARR .u8 32 y),u32],defers:=[]} w):(Code.region 8 z1H true).wp Tryz.prog Q {tmps:=#[.int .i64 d,.slice (some ⟨gn,o,none⟩) n c,u2,u3,u4,u5,.pointer (some ⟨b,0,none⟩),.int .i64 (q:Int),u8,u9,u10,u11,u12,u13,u14,u15,u16,u17,u18,u19,u20,u21,u22,u23,u24,u25,u26,u27,u28,u29,u30,u31,u32],defers:=[]} W:=by
  have k5_6_7:∀ (w:World),(∃ w0:World,I w0∧w=w0.setRow b (UARR .u8 32 y))→wpAnyH Tryz.prog .any z1H Q (fun w:World=>w.rangeAt gn (o+q*32) (z02 .u8 32 l)) 0 #[true,true,true,true,true,true,true,true] {tmps:=#[.int .i64 d,.slice (some ⟨gn,o,none⟩) n c,u2,u3,u4,u5,.pointer (some ⟨b,0,none⟩),.int .i64 (q:Int),u8,u9,u10,u11,u12,u13,u14,u15,u16,u17,u18,u19,u20,u21,u22,u23,u24,.int .i64 d,.slice (some ⟨gn,o,none⟩) n c,.int .i64 (q:Int),.pointer (some ⟨gn,(o+q*32),none⟩),.agg (UARR .u8 32 l),.agg (UARR .u8 32 x),.agg (UARR .u8 32 y),u32],defers:=[]} w:=fun  w hp=>by
    exact wpAnyH_done (by kernel_rfl) (hfin  w hp) _
  have k5_6:∀ (w:World),(I w)→wpAnyH Tryz.prog .any z1H Q (fun w:World=>w.rangeAt gn (o+q*32) (z02 .u8 32 l)) 1 #[true,true,true,true,true,true,true,false] {tmps:=#[.int .i64 d,.slice (some ⟨gn,o,none⟩) n c,u2,u3,u4,u5,.pointer (some ⟨b,0,none⟩),.int .i64 (q:Int),u8,u9,u10,u11,u12,u13,u14,u15,u16,u17,u18,u19,u20,u21,u22,u23,u24,.int .i64 d,.slice (some ⟨gn,o,none⟩) n c,.int .i64 (q:Int),.pointer (some ⟨gn,(o+q*32),none⟩),.agg (UARR .u8 32 l),.agg (UARR .u8 32 x),.agg (UARR .u8 32 y),u32],defers:=[]} w:=fun  w hp=>by
    refine wpAnyH_ready (rs:=[7]) (by kernel_rfl) (by simp) ?_
    refine AllReadyH.cons (o:=⟨none,.store 35 (.tmp 6) (.tmp 31),0,"grow.go:30",#[⟨6,.data⟩,⟨6,.chain⟩,⟨0,.phase⟩,⟨1,.phase⟩,⟨2,.phase⟩,⟨3,.phase⟩,⟨4,.phase⟩,⟨5,.phase⟩,⟨6,.phase⟩],none⟩) rfl (fun K hK=>?_) ?_
    · exact z0Q rfl (z1j (z3U (hI _ hp).2 y)) (have hp:(fun (w:World)=>(∃ w0:World,I w0∧w=w0.setRow b (UARR .u8 32 y)))  _:=⟨w,hp,rfl⟩;hK.out _ _ ((by obtain ⟨w0,h1,h2⟩:=hp; (first | rw [h2] | skip);exact hRow _ h1)) (fun _=>k5_6_7  _ hp))
    exact AllReadyH.nil
  have k5:∀ (w:World),(I w)→wpAnyH Tryz.prog .any z1H Q (fun w:World=>w.rangeAt gn (o+q*32) (z02 .u8 32 l)) 2 #[true,true,true,true,true,true,false,false] {tmps:=#[.int .i64 d,.slice (some ⟨gn,o,none⟩) n c,u2,u3,u4,u5,.pointer (some ⟨b,0,none⟩),.int .i64 (q:Int),u8,u9,u10,u11,u12,u13,u14,u15,u16,u17,u18,u19,u20,u21,u22,u23,u24,.int .i64 d,.slice (some ⟨gn,o,none⟩) n c,.int .i64 (q:Int),.pointer (some ⟨gn,(o+q*32),none⟩),.agg (UARR .u8 32 l),.agg (UARR .u8 32 x),u31,u32],defers:=[]} w:=fun  w hp=>by
    refine wpAnyH_ready (rs:=[6]) (by kernel_rfl) (by simp) ?_
    refine AllReadyH.cons (o:=⟨some 31,.call {callee:=.value (.func 123),args:=#[.tmp 25,.tmp 29,.tmp 30],argTypes:=#[3,35,35]},35,"grow.go:30",#[⟨0,.data⟩,⟨4,.data⟩,⟨5,.data⟩],none⟩) rfl (fun K hK=>?_) ?_
    · rw [if_pos (by rfl)]
      go_simp
      refine (show Calls _ _ _ w (fun e w'=>e=.returned (.agg (UARR .u8 32 y))∧(I w')) from c1 w hp).mono ?_
      rintro e w' ⟨rfl,hp⟩
      exact hK.out _ _ ((hI _ hp).1) (fun _=>k5_6  w' hp)
    exact AllReadyH.nil
  have k:∀ (w:World),(I w)→wpAnyH Tryz.prog .any z1H Q (fun w:World=>w.rangeAt gn (o+q*32) (z02 .u8 32 l)) 3 #[true,true,true,true,true,false,false,false] {tmps:=#[.int .i64 d,.slice (some ⟨gn,o,none⟩) n c,u2,u3,u4,u5,.pointer (some ⟨b,0,none⟩),.int .i64 (q:Int),u8,u9,u10,u11,u12,u13,u14,u15,u16,u17,u18,u19,u20,u21,u22,u23,u24,.int .i64 d,.slice (some ⟨gn,o,none⟩) n c,.int .i64 (q:Int),.pointer (some ⟨gn,(o+q*32),none⟩),.agg (UARR .u8 32 l),u30,u31,u32],defers:=[]} w:=fun  w hp=>by
    refine wpAnyH_ready (rs:=[5]) (by kernel_rfl) (by simp) ?_
    refine AllReadyH.cons (o:=⟨some 30,.load 35 (.tmp 6),35,"grow.go:30",#[],none⟩) rfl (fun K hK=>?_) ?_
    · exact z4u rfl 35 (.tmp 6) rfl b 0 rfl (z02 .u8 32 x) _ (hI _ hp).2.whole Tryz.underlying35 rfl (by rw [z0a];exact z0t) (have hp:(fun (w:World)=>(I w))  w:=hp;hK.out _ _ ((hI _ hp).1) (fun _=>k5  _ hp))
    exact AllReadyH.nil
  have hp:=h0
  have hww:(fun w:World=>w.rangeAt gn (o+q*32) (z02 .u8 32 l)) W.drew:=(hI _ hp).1
  have last:=k W.drew hp
  have z:wpAnyH Tryz.prog .any z1H Q (fun w:World=>w.rangeAt gn (o+q*32) (z02 .u8 32 l)) 8 #[false,false,false,false,false,false,false,false] {tmps:=#[.int .i64 d,.slice (some ⟨gn,o,none⟩) n c,u2,u3,u4,u5,.pointer (some ⟨b,0,none⟩),.int .i64 (q:Int),u8,u9,u10,u11,u12,u13,u14,u15,u16,u17,u18,u19,u20,u21,u22,u23,u24,u25,u26,u27,u28,u29,u30,u31,u32],defers:=[]} W.drew:=by
    have t4:wpAnyH Tryz.prog .any z1H Q (fun w:World=>w.rangeAt gn (o+q*32) (z02 .u8 32 l)) 4 #[true,true,true,true,false,false,false,false] {tmps:=#[.int .i64 d,.slice (some ⟨gn,o,none⟩) n c,u2,u3,u4,u5,.pointer (some ⟨b,0,none⟩),.int .i64 (q:Int),u8,u9,u10,u11,u12,u13,u14,u15,u16,u17,u18,u19,u20,u21,u22,u23,u24,.int .i64 d,.slice (some ⟨gn,o,none⟩) n c,.int .i64 (q:Int),.pointer (some ⟨gn,(o+q*32),none⟩),u29,u30,u31,u32],defers:=[]} W.drew:=
      wpAnyH_take (i:=4) (oi:=⟨some 29,.load 35 (.tmp 28),35,"grow.go:30",#[⟨3,.data⟩],none⟩) (v:=.agg (UARR .u8 32 l)) rfl (by kernel_rfl) (by kernel_rfl) (by kernel_rfl) (fun _ _ _ h=>hQ _ _ _ _ _ h) (yieldsIf_load_mid (by rfl) 35 (.tmp 28) rfl gn (o+q*32) rfl (z02 .u8 32 l) _ (fun w h=>h) Tryz.underlying35 rfl (by rw [z0a];exact z0t)) hww last
    have t3:wpAnyH Tryz.prog .any z1H Q (fun w:World=>w.rangeAt gn (o+q*32) (z02 .u8 32 l)) 5 #[true,true,true,false,false,false,false,false] {tmps:=#[.int .i64 d,.slice (some ⟨gn,o,none⟩) n c,u2,u3,u4,u5,.pointer (some ⟨b,0,none⟩),.int .i64 (q:Int),u8,u9,u10,u11,u12,u13,u14,u15,u16,u17,u18,u19,u20,u21,u22,u23,u24,.int .i64 d,.slice (some ⟨gn,o,none⟩) n c,.int .i64 (q:Int),u28,u29,u30,u31,u32],defers:=[]} W.drew:=
      wpAnyH_take (i:=3) (oi:=⟨some 28,.indexAddr 22 (.tmp 26) (.tmp 27),0,"grow.go:30",#[⟨1,.data⟩,⟨2,.data⟩],none⟩) (v:=.pointer (some ⟨gn,(o+q*32),none⟩)) rfl (by kernel_rfl) (by kernel_rfl) (by kernel_rfl) (fun _ _ _ h=>hQ _ _ _ _ _ h) (Yields.yieldsIf (Or.inl ⟨by rfl,fun W=>by go_simp⟩)) hww t4
    have t2:wpAnyH Tryz.prog .any z1H Q (fun w:World=>w.rangeAt gn (o+q*32) (z02 .u8 32 l)) 6 #[true,true,false,false,false,false,false,false] {tmps:=#[.int .i64 d,.slice (some ⟨gn,o,none⟩) n c,u2,u3,u4,u5,.pointer (some ⟨b,0,none⟩),.int .i64 (q:Int),u8,u9,u10,u11,u12,u13,u14,u15,u16,u17,u18,u19,u20,u21,u22,u23,u24,.int .i64 d,.slice (some ⟨gn,o,none⟩) n c,u27,u28,u29,u30,u31,u32],defers:=[]} W.drew:=
      wpAnyH_take (i:=2) (oi:=⟨some 27,.move (.tmp 7),3,"grow.go:30",#[],none⟩) (v:=.int .i64 (q:Int)) rfl (by kernel_rfl) (by kernel_rfl) (by kernel_rfl) (fun _ _ _ h=>hQ _ _ _ _ _ h) (Yields.yieldsIf (Or.inl ⟨by rfl,fun W=>by go_simp⟩)) hww t3
    have t1:wpAnyH Tryz.prog .any z1H Q (fun w:World=>w.rangeAt gn (o+q*32) (z02 .u8 32 l)) 7 #[true,false,false,false,false,false,false,false] {tmps:=#[.int .i64 d,.slice (some ⟨gn,o,none⟩) n c,u2,u3,u4,u5,.pointer (some ⟨b,0,none⟩),.int .i64 (q:Int),u8,u9,u10,u11,u12,u13,u14,u15,u16,u17,u18,u19,u20,u21,u22,u23,u24,.int .i64 d,u26,u27,u28,u29,u30,u31,u32],defers:=[]} W.drew:=
      wpAnyH_take (i:=1) (oi:=⟨some 26,.move (.tmp 1),22,"grow.go:30",#[],none⟩) (v:=.slice (some ⟨gn,o,none⟩) n c) rfl (by kernel_rfl) (by kernel_rfl) (by kernel_rfl) (fun _ _ _ h=>hQ _ _ _ _ _ h) (Yields.yieldsIf (Or.inl ⟨by rfl,fun W=>by go_simp⟩)) hww t2
    have t0:wpAnyH Tryz.prog .any z1H Q (fun w:World=>w.rangeAt gn (o+q*32) (z02 .u8 32 l)) 8 #[false,false,false,false,false,false,false,false] {tmps:=#[.int .i64 d,.slice (some ⟨gn,o,none⟩) n c,u2,u3,u4,u5,.pointer (some ⟨b,0,none⟩),.int .i64 (q:Int),u8,u9,u10,u11,u12,u13,u14,u15,u16,u17,u18,u19,u20,u21,u22,u23,u24,u25,u26,u27,u28,u29,u30,u31,u32],defers:=[]} W.drew:=
      wpAnyH_take (i:=0) (oi:=⟨some 25,.move (.tmp 0),3,"grow.go:30",#[],none⟩) (v:=.int .i64 d) rfl (by kernel_rfl) (by kernel_rfl) (by kernel_rfl) (fun _ _ _ h=>hQ _ _ _ _ _ h) (Yields.yieldsIf (Or.inl ⟨by rfl,fun W=>by go_simp⟩)) hww t1
    exact t0
  exact wp_region_held_drew (S:=(fun w:World=>w.rangeAt gn (o+q*32) (z02 .u8 32 l))) (by kernel_rfl) hww (fun _=>z)
end Go.Proofs.YtjkjlblongeljaaGreatDoor.HX

namespace Go.Proofs.YtjkjlblongeljaaGreatDoor.HX
open Go.RowKit
set_option maxRecDepth 100000
def HASHES (w:World) (a:Option Addr) (n:Nat) (hs:Nat→Nat→Nat):Prop:=0<n→∃ b o,a=some ⟨b,o,none⟩∧b<w.heap.size∧∀ i,i<n→w.rangeAt b (o+i*32) (z02 .u8 32 (hs i))
theorem HASHES.below {w w':World} {a:Option Addr} {n:Nat} {hs:Nat→Nat→Nat} (h:HASHES w a n hs) (hb:Below w.heap.size w w'):HASHES w' a n hs:=fun hn=>by
  obtain ⟨b,o,e,hl,hc⟩:=h hn
  exact ⟨b,o,e,Nat.lt_of_lt_of_le hl hb.size,fun i hi=>z1u (hc i hi) hb hl⟩
def z4J (d:Int) (l r:Nat→Nat):Nat→Nat:=z0y d (2 :: ((List.range 32).map l ++ (List.range 32).map r))
def z41 (d:Int) (n:Nat) (r:Nat→Nat):Nat→Nat:=z0y d (3 :: (BE8 n ++ (List.range 32).map r))
theorem zeh (d:Int) (l r:Nat→Nat) (i:Nat):z4J d l r i<256:=z1X d _ _ i
def FAF (d:Int) (hs:Nat→Nat→Nat) (n:Nat):Nat→Nat→Nat
  | 0=>hs (n - 1)
  | k+1=>z4J d (hs (n - 2 - k)) (FAF d hs n k)
def FLDF (d:Int) (hs:Nat→Nat→Nat) (n:Nat):Nat→Nat:=if n=0 then fun _=>0 else FAF d hs n (n - 1)
theorem zcF {d:Int} {hs:Nat→Nat→Nat} {n:Nat} (hb:∀ i,i<n→∀ j,hs i j<256) (hn:0<n):∀ k j,FAF d hs n k j<256
  | 0,j=>hb _ (by omega) j
  | k+1,j=>zeh _ _ _ j
theorem zfn {d:Int} {hs:Nat→Nat→Nat} {n:Nat} (hb:∀ i,i<n→∀ j,hs i j<256) (j:Nat):FLDF d hs n j<256:=by
  unfold FLDF
  split
  · show (0:Nat)<256
    decide
  · exact zcF hb (by omega) _ j
set_option maxHeartbeats 4000000 in
theorem zbc (d:Int) (a:Option Addr) (n c:Nat) (hn:n≤1000) (hs:Nat→Nat→Nat) (w:World) (hH:HASHES w a n hs) (h8:∀ i,i<n→∀ j,hs i j<256) (hX:Tabled w):
    Calls Tryz.prog 95 #[.int .i64 d,.slice a n c] w fun e w'=>e=.returned (.agg (UARR .u8 32 (FLDF d hs n)))∧Below w.heap.size w w':=by
  have hz:=z0X
  have hbn:=z3j
  obtain ⟨w0,hw0⟩:∃ w0,w.alloc (.cells (UARR .u8 32 fun _=>0) 35)=w0:=⟨_,rfl⟩
  have hb0:Below w.heap.size w w0:=by rw [← hw0];exact (Below.refl _ _).alloc (Nat.le_refl _) _
  have h40:Has w0 w.heap.size (UARR .u8 32 fun _=>0) 35:=by rw [← hw0];exact Has.new w _ _
  by_cases h0:n=0
  · subst h0
    have e:FLDF d hs 0=fun _=>0:=rfl
    rw [e]
    clear hH hX hn e h8
    have hst2:=z0j h40 (fun _=>0)
    have hsu:=z01 .u8 32 (fun _=>0)
    go_enter Tryz.func95,Tryz.ntmps95
    go_wp2
    refine bodyPost_ret (v:=.agg (UARR .u8 32 fun _=>0)) (z2h rfl _ _ w.heap.size 35 _ (0,0) _ _ rfl (h40.row _) Tryz.underlying35 (z03 _)) rfl ⟨rfl,z06 hb0 (Nat.le_refl _) _⟩
  · obtain ⟨m,hm⟩:∃ m,n=m+1:=⟨n - 1,by omega⟩
    obtain ⟨gn,o,rfl,hgn,hcn⟩:=hH (by omega)
    have hz0:((n:Int) == 0)=false:=beq_eq_false_iff_ne.2 (by omega)
    have e1:wrap64 ((n:Int) - 1)=(m:Int):=by unfold wrap64;omega
    have hml:(m:Int)<(n:Int):=by omega
    have e:FLDF d hs n=FAF d hs n m:=by unfold FLDF;rw [if_neg h0,show n - 1=m by omega]
    rw [e]
    have hat:w0.rangeAt gn (o+m*32) (z02 .u8 32 (FAF d hs n 0)):=by
      have h2:FAF d hs n 0=hs m:=by rw [FAF,show n - 1=m by omega]
      rw [h2]
      exact z1u (hcn m (by omega)) hb0 hgn
    have HA:Aside (n=m+1∧n≤1000∧(∀ i,i<n→w.rangeAt gn (o+i*32) (z02 .u8 32 (hs i)))∧Tabled w∧gn<w.heap.size∧(∀ k j,FAF d hs n k j<256)∧(∀ i,i<n→∀ j,hs i j<256)):=⟨hm,hn,hcn,hX,hgn,zcF h8 (by omega),h8⟩
    clear hm hn hX hgn hcn h0 e hH h8
    generalize hA0:FAF d hs n 0=A0 at *
    have hst:=run_storeCells_new (P:=Tryz.prog) w0 35 (UARR .u8 32 fun _=>0) (UARR .u8 32 A0) (z03 _) (by rw [z01,z01]) (z0f _ _ _)
    have hsu:=z01 .u8 32 A0
    go_enter Tryz.func95,Tryz.ntmps95
    go_wp2_with (first
      | (refine wpList_load_mid rfl 35 (.tmp 17) rfl gn (o+m*32) rfl (z02 .u8 32 A0) _ hat Tryz.underlying35 rfl (by rw [z0a];exact z0t) ?_;rw [← z0M]))
    have R1:Aside (Below w.heap.size w (w0.alloc (.cells (UARR .u8 32 A0) 35))∧Has (w0.alloc (.cells (UARR .u8 32 A0) 35)) w.heap.size (UARR .u8 32 fun _=>0) 35∧Has (w0.alloc (.cells (UARR .u8 32 A0) 35)) w0.heap.size (UARR .u8 32 (FAF d hs n 0)) 35∧w.heap.size<w0.heap.size):=⟨hb0.alloc hb0.size _,h40.alloc _,by rw [hA0];exact Has.new _ _ _,h40.lt⟩
    clear hat hst hsu hA0 hw0 hb0 h40
    generalize w0.alloc (.cells (UARR .u8 32 A0) 35)=W1 at *
    generalize w0.heap.size=b6 at *
    clear w0
    have K:Aside (w.heap.size<b6):=R1.out.2.2.2
    have E0:Aside (wrap64 ((m:Int) - 1)=(m:Int) - 1):=by have:=HA.out.1;have:=HA.out.2.1;show wrap64 ((m:Int) - 1)=(m:Int) - 1;unfold wrap64;omega
    go_loopg [7] m (fun q s7 wx=>∃ x:Int,s7=.int .i64 x∧Aside (q≤m∧x=(q:Int) - 1∧Below w.heap.size w wx∧Has wx w.heap.size (UARR .u8 32 fun _=>0) 35∧Has wx b6 (UARR .u8 32 (FAF d hs n (m - q))) 35))
    case atStart=>exact ⟨_,rfl,Nat.le_refl _,E0.out,R1.out.1,R1.out.2.1,by rw [Nat.sub_self];exact R1.out.2.2.1⟩
    case round=>
      obtain ⟨x,rfl,A⟩:=hrel
      clear R1 E0 e1
      cases gk with
      | zero=>
        obtain rfl:x = -1:=by have:=A.out.2.1;omega
        have hH4:=A.out.2.2.2.1
        have hH6:Has wr b6 (UARR .u8 32 (FAF d hs n m)) 35:=A.out.2.2.2.2
        have hb:=A.out.2.2.1
        clear A HA
        generalize hY0:FAF d hs n m=Y at *
        have hst2:=z0j hH4 Y
        have hsu:=z01 .u8 32 Y
        go_wp2_with (first
          | (refine wpList_load_row rfl 35 (.tmp 6) rfl b6 rfl 35 (UARR .u8 32 Y) (0,0) _ hH6 Tryz.underlying35 rfl (z03 _) ?_)
          | fail)
        refine bodyPost_ret (v:=.agg (UARR .u8 32 Y)) (z2h rfl _ _ w.heap.size 35 _ (0,0) _ _ rfl (hH4.row _) Tryz.underlying35 (z03 _)) rfl ⟨by rw [hY0],z06 hb (Nat.le_refl _) _⟩
      | succ q=>
        obtain rfl:x=(q:Int):=by have:=A.out.2.1;omega
        have hq0:(0:Int)≤(q:Int):=by omega
        obtain ⟨h1,h2,h3,h4,h5,h6,h7⟩:=HA.out
        have hqm:q+1≤m:=A.out.1
        have hb1:(q:Int)<(n:Int):=by omega
        have eY:FAF d hs n (m - q)=z4J d (hs q) (FAF d hs n (m - (q+1))):=by
          rw [show m - q=(m - (q+1))+1 by omega,FAF,show n - 2 - (m - (q+1))=q by omega]
        have hr:=h6 (m - (q+1))
        have hl:=h7 q (by omega)
        have hE1:Aside (wrap64 ((q:Int) - 1)=(q:Int) - 1):=by show wrap64 ((q:Int) - 1)=(q:Int) - 1;unfold wrap64;omega
        have hb:=A.out.2.2.1
        have H2:Aside (w.rangeAt gn (o+q*32) (z02 .u8 32 (hs q))∧gn<w.heap.size∧Tabled w∧(∀ j,hs q j<256)∧(∀ j,FAF d hs n (m - (q+1)) j<256)∧FAF d hs n (m - q)=z4J d (hs q) (FAF d hs n (m - (q+1)))∧Below w.heap.size w wr∧Has wr w.heap.size (UARR .u8 32 fun _=>0) 35∧Has wr b6 (UARR .u8 32 (FAF d hs n (m - (q+1)))) 35∧q≤m):=⟨h3 q (by omega),h5,h4,hl,hr,eY,hb,A.out.2.2.2.1,A.out.2.2.2.2,by omega⟩
        clear h1 h2 h3 h4 h5 h6 h7 eY hb hr hl A HA hqm
        go_upto_region 8 with fail
        refine z9b wr gn o n c b6 q d (hs q) (FAF d hs n (m - (q+1))) (FAF d hs n (m - q)) hb1 (fun V=>Below wr.heap.size wr V) (Below.refl _ _).drew (fun V hV=>?_) (fun V hV=>?_) (fun V hV=>?_) (fun _ _ _ _ _ h=>h) ?_
        · exact ⟨z1u (z1u H2.out.1 H2.out.2.2.2.2.2.2.1 H2.out.2.1) hV (Nat.lt_of_lt_of_le H2.out.2.1 H2.out.2.2.2.2.2.2.1.size),H2.out.2.2.2.2.2.2.2.2.1.keep hV⟩
        · have hV2:Below w.heap.size w V:=H2.out.2.2.2.2.2.2.1.trans (hV.mono H2.out.2.2.2.2.2.2.1.size)
          exact z1u H2.out.1 (z06 hV2 (Nat.le_of_lt K.out) _) H2.out.2.1
        · have hV2:Below w.heap.size w V:=H2.out.2.2.2.2.2.2.1.trans (hV.mono H2.out.2.2.2.2.2.2.1.size)
          refine (z9x d (hs q) (FAF d hs n (m - (q+1))) H2.out.2.2.2.1 H2.out.2.2.2.2.1 V (H2.out.2.2.1.below hV2)).mono ?_
          rintro e V' ⟨rfl,hb⟩
          exact ⟨by rw [H2.out.2.2.2.2.2.1];rfl,hV.trans (hb.mono hV.size)⟩
        · intro W3 hW3
          obtain ⟨w0',hw0',hW3⟩:=hW3
          have Z:Aside (q≤m∧Below w.heap.size w W3∧Has W3 w.heap.size (UARR .u8 32 fun _=>0) 35∧Has W3 b6 (UARR .u8 32 (FAF d hs n (m - q))) 35):=by
            have hV2:Below w.heap.size w w0':=H2.out.2.2.2.2.2.2.1.trans (hw0'.mono H2.out.2.2.2.2.2.2.1.size)
            rw [hW3]
            exact ⟨H2.out.2.2.2.2.2.2.2.2.2,z06 hV2 (Nat.le_of_lt K.out) _,(H2.out.2.2.2.2.2.2.2.1.keep hw0').row_other (by have:=K.out;omega) _,(H2.out.2.2.2.2.2.2.2.2.1.keep hw0').row _⟩
          clear hW3 hw0' H2
          have e1:=hE1.out
          go_wp2
          go_roundg q
          case measure=>exact Nat.lt_succ_self _
          case rel=>exact ⟨_,rfl,Z.out.1,by first | rfl | exact hE1.out,Z.out.2⟩
end Go.Proofs.YtjkjlblongeljaaGreatDoor.HX

namespace Go.Proofs.YtjkjlblongeljaaGreatDoor.HX
open Go.RowKit
set_option maxRecDepth 100000
theorem z5U {w:World} {B n:Nat} {v:Value} {l:List (Nat→Nat)} (h:w.ownsRow B 35 32 v n (HL l)) (hl:l.length=n):∃ a c,v=.slice a n c∧HASHES w a n (fun i=>l.getD i fun _=>0):=by
  obtain ⟨a,c,rfl⟩:=z4q h
  refine ⟨a,c,rfl,fun hn=>?_⟩
  rcases h.2 with ⟨e,h0⟩ | ⟨g,cap,cur,e,_,hg,_⟩
  · omega
  · simp only [Value.slice.injEq] at e
    obtain ⟨rfl,_,rfl⟩:=e
    refine ⟨g,0,rfl,(h.lt g rfl).2,fun i hi j u hj=>?_⟩
    have hj32:j<32:=by have:=(List.getElem?_eq_some_iff.1 hj).1;rwa [z0a] at this
    have hli:l[i]?=some (l.getD i fun _=>0):=by rw [List.getD_eq_getElem?_getD,List.getElem?_eq_getElem (by omega)];rfl
    rw [z1l _ _ _ _ hj32] at hj
    rw [← hj,Nat.zero_add,h.cellAt (i*32+j) (by omega)]
    exact z81 l i j _ hli hj32
set_option maxHeartbeats 2000000 in
theorem zfo (d:Int) (n:Nat) (hn:n≤4611686018427387904) (a:Option Addr) (k c:Nat) (hk:k=PC n) (hs:Nat→Nat→Nat) (w:World) (hH:HASHES w a k hs) (h8:∀ i,i<k→∀ j,hs i j<256) (hX:Tabled w):
    Calls Tryz.prog 52 #[.int .i64 d,.int .u64 (n:Int),.slice a k c] w fun e w'=>e=.returned (.tuple #[.agg (UARR .u8 32 (z41 d n (FLDF d hs k))),.int .i64 0])∧Below w.heap.size w w':=by
  have hz:=z0X
  obtain ⟨w0,hw0⟩:∃ w0,w.alloc (.cells (UARR .u8 32 fun _=>0) 35)=w0:=⟨_,rfl⟩
  have hb0:Below w.heap.size w w0:=by rw [← hw0];exact (Below.refl _ _).alloc (Nat.le_refl _) _
  have h40:Has w0 w.heap.size (UARR .u8 32 fun _=>0) 35:=by rw [← hw0];exact Has.new w _ _
  have h1':¬ (4611686018427387904:Int)<(n:Int):=by omega
  have hn64:n<2 ^ 64:=by omega
  have hpop:=z5t hn64
  have hk64:k≤64:=by rw [hk];exact z1x 64 n hn64
  have e2:(k:Int)=((POP n:Nat):Int):=by rw [hpop,hk]
  have co:=z1z n hn64 w0
  rw [← e2] at co
  have cf:=zbc d a k c (by omega) hs w0 (hH.below hb0) h8 (hX.below hb0)
  have hF8:=zfn (d:=d) h8
  have cr:=fun (W:World) (hb:Below w0.heap.size w0 W)=>z9y d n hn64 (FLDF d hs k) hF8 W ((hX.below hb0).below hb)
  have eR:z41 d n (FLDF d hs k)=z0y d (3 :: (BE8 n ++ (List.range 32).map (FLDF d hs k))):=rfl
  rw [← eR] at cr
  clear eR hF8 e2 hk64 hpop hn64 hk hH h8 hX hn
  generalize z41 d n (FLDF d hs k)=Y at *
  generalize FLDF d hs k=X at *
  go_enter Tryz.func52,Tryz.ntmps52
  go_wp2_with fail
  refine co.mono ?_
  rintro e w1 ⟨rfl,rfl⟩
  clear co
  go_wp2_with fail
  refine cf.mono ?_
  rintro e w1 ⟨rfl,hb1⟩
  clear cf
  go_wp2_with fail
  refine (cr w1 hb1).mono ?_
  rintro e w2 ⟨rfl,hb2⟩
  clear cr
  have hb12:Below w0.heap.size w0 w2:=hb1.trans (hb2.mono hb1.size)
  have h42:=h40.keep hb12
  have hb3':Below w.heap.size w w2:=hb0.trans (hb12.mono hb0.size)
  have hst2:=z0j h42 Y
  have hsu:=z01 .u8 32 Y
  clear hb1 hb2 hb12
  go_wp2
  refine bodyPost_ret (v:=.tuple #[.agg (UARR .u8 32 Y),.int .i64 0]) ?_ rfl ⟨rfl,z06 hb3' (Nat.le_refl _) _⟩
  exact z0q rfl _ _ w.heap.size 35 _ (0,0) _ _ rfl (h42.row _) _ rfl Tryz.underlying35 (z03 _)
def z16 (d:Int) (f:Nat→Nat→Nat) (m:Nat):Nat→Nat:=z41 d m (FLDF d (fun i=>(PKV d f m).getD i fun _=>0) (PC m))
theorem zg5 {d:Int} {f:Nat→Nat→Nat} {n m:Nat} (hf:∀ k,k<n→∀ i,f k i<256) (hm:m≤n) (i:Nat) (j:Nat):(PKV d f m).getD i (fun _=>0) j<256:=by
  rw [List.getD_eq_getElem?_getD,PKV,List.getElem?_map]
  cases hi:(HS 0 m)[i]? with
  | none=>show (0:Nat)<256;decide
  | some h=>
    have hb:=(z4b 0 h (by decide) (List.mem_of_getElem? hi)).2.2
    exact z2g hf h _ (Nat.le_trans (z6U hb) hm) j
set_option maxHeartbeats 2000000 in
theorem zg6 {w:World} {B g:Nat} {d:Int} {log n:Nat} {C:z05} {f:Nat→Nat→Nat} (hF:FOREST w B g d log n C f) (m:Nat) (hm:m≤n) (hT:Go.Proofs.YtjkjlblongeljaaGreatDoor.Tabled w) (hX:Tabled w):
    Calls Tryz.prog 53 #[.pointer (some ⟨g,0,none⟩),.int .u64 (m:Int)] w fun e w'=>e=.returned (.tuple #[.agg (UARR .u8 32 (z16 d f m)),.int .i64 0])∧Below w.heap.size w w':=by
  have hz:=z0X
  obtain ⟨w0,hw0⟩:∃ w0,w.alloc (.cells (UARR .u8 32 fun _=>0) 35)=w0:=⟨_,rfl⟩
  have hb0:Below w.heap.size w w0:=by rw [← hw0];exact (Below.refl _ _).alloc (Nat.le_refl _) _
  have h40:Has w0 w.heap.size (UARR .u8 32 fun _=>0) 35:=by rw [← hw0];exact Has.new w _ _
  have hF0:=hF.below hb0
  have c6:=hF0.size
  have hle:¬ (n:Int)<(m:Int):=by omega
  have cp:=z84 hF0 m hm (hT.below (by have:=hF.store.lt;omega) hb0)
  have hn20:=hF.few
  have A:Aside (FOREST w0 B g d log n C f∧m≤n∧m≤2 ^ 20∧Tabled w0):=⟨hF0,hm,by omega,hX.below hb0⟩
  clear hF hm hT hX hn20 hF0
  go_enter Tryz.func53,Tryz.ntmps53
  go_wp2_with fail
  refine cp.mono ?_
  rintro e w1 ⟨v,rfl,hown,hb1⟩
  clear cp
  obtain ⟨a,c,rfl,hH⟩:=z5U hown (z3Y d f (by have:=A.out.2.2.1;omega))
  have c5:=(A.out.1.below hb1).width
  have cb:=zfo d m (by have:=A.out.2.2.1;omega) a (PC m) c rfl _ w1 hH (fun i _ j=>zg5 A.out.1.byte A.out.2.1 i j) (A.out.2.2.2.below hb1)
  have eR:z16 d f m=z41 d m (FLDF d (fun i=>(PKV d f m).getD i fun _=>0) (PC m)):=rfl
  rw [← eR] at cb
  clear hown hH eR A
  generalize hY0:z16 d f m=Y at *
  generalize PC m=M at *
  go_wp2_with fail
  refine cb.mono ?_
  rintro e w2 ⟨rfl,hb2⟩
  clear cb
  have hb12:Below w0.heap.size w0 w2:=hb1.trans (hb2.mono hb1.size)
  have h42:=h40.keep hb12
  have hb3':Below w.heap.size w w2:=hb0.trans (hb12.mono hb0.size)
  have hst2:=z0j h42 Y
  have hsu:=z01 .u8 32 Y
  clear hb1 hb2 hb12 c5
  go_wp2
  refine bodyPost_ret (v:=.tuple #[.agg (UARR .u8 32 Y),.int .i64 0]) ?_ rfl ⟨by rw [hY0],z06 hb3' (Nat.le_refl _) _⟩
  exact z0q rfl _ _ w.heap.size 35 _ (0,0) _ _ rfl (h42.row _) _ rfl Tryz.underlying35 (z03 _)
set_option maxHeartbeats 2000000 in
theorem zfp {w:World} {B g:Nat} {d:Int} {log n:Nat} {C:z05} {f:Nat→Nat→Nat} (hF:FOREST w B g d log n C f) (hT:Go.Proofs.YtjkjlblongeljaaGreatDoor.Tabled w) (hX:Tabled w):
    Calls Tryz.prog 22 #[.pointer (some ⟨g,0,none⟩)] w fun e w'=>e=.returned (.agg (UARR .u8 32 (z16 d f n)))∧Below w.heap.size w w':=by
  have hz:=z0X
  obtain ⟨w0,hw0⟩:∃ w0,w.alloc (.cells (UARR .u8 32 fun _=>0) 35)=w0:=⟨_,rfl⟩
  have hb0:Below w.heap.size w w0:=by rw [← hw0];exact (Below.refl _ _).alloc (Nat.le_refl _) _
  have h40:Has w0 w.heap.size (UARR .u8 32 fun _=>0) 35:=by rw [← hw0];exact Has.new w _ _
  have c6:=(hF.below hb0).size
  have co:=zg6 (hF.below hb0) n (Nat.le_refl _) (hT.below (by have:=hF.store.lt;omega) hb0) (hX.below hb0)
  clear hF hT hX
  generalize z16 d f n=L at *
  go_enter Tryz.func22,Tryz.ntmps22
  go_wp2_with fail
  refine co.mono ?_
  rintro e w2 ⟨rfl,hb2⟩
  clear co
  have hst:=run_storeCells_new (P:=Tryz.prog) w2 35 (UARR .u8 32 fun _=>0) (UARR .u8 32 L) (z03 _) (by rw [z01,z01]) (z0f _ _ _)
  have hsu:=z01 .u8 32 L
  obtain ⟨w3,hw3⟩:∃ w3,w2.alloc (.cells (UARR .u8 32 L) 35)=w3:=⟨_,rfl⟩
  have hb3:Below w0.heap.size w0 w3:=by rw [← hw3];exact hb2.alloc hb2.size _
  have hF3:Has w3 w2.heap.size (UARR .u8 32 L) 35:=by rw [← hw3];exact Has.new w2 _ _
  have h43:=h40.keep hb3
  have hb3':Below w.heap.size w w3:=hb0.trans (hb3.mono hb0.size)
  have hst2:=z0j h43 L
  go_wp2_with (first
    | (refine wpList_load_row rfl 35 (.tmp 3) rfl w2.heap.size rfl 35 (UARR .u8 32 L) (0,0) _ hF3 Tryz.underlying35 rfl (z03 _) ?_)
    | fail)
  refine bodyPost_ret (v:=.agg (UARR .u8 32 L)) ?_ rfl ⟨rfl,z06 hb3' (Nat.le_refl _) _⟩
  exact z2h rfl _ _ w.heap.size 35 _ (0,0) _ _ rfl (h43.row _) Tryz.underlying35 (z03 _)
end Go.Proofs.YtjkjlblongeljaaGreatDoor.HX

namespace Go.Proofs.YtjkjlblongeljaaGreatDoor
open Go.RowKit
set_option maxRecDepth 100000
theorem z38 (f:Nat→Nat):NATS (LST f)=(List.range 32).map f:=by
  unfold NATS
  apply List.map_congr_left
  intro i hi
  have hi':i<32:=by simpa using hi
  unfold FNC LST
  rw [List.getD_eq_getElem?_getD,List.getElem?_map,List.getElem?_range hi']
  simp
theorem zcG (d:Int) (a b:Nat→Nat):z1S d (LST a) (LST b)=LST (HX.z7e d a b):=by
  unfold z1S HX.z7e
  rw [z38,z38]
theorem zcH (d:Int) (a b:Nat→Nat):z4C d (LST a) (LST b)=LST (HX.z4J d a b):=by
  unfold z4C HX.z4J
  rw [z38,z38]
theorem zcI (d:Int) (n:Nat) (a:Nat→Nat):z17 d n (LST a)=LST (HX.z41 d n a):=by
  unfold z17 HX.z41
  rw [z38]
theorem zcJ (d:Int) (f:Nat→Nat→Nat) (h k:Nat):TVAL d f (h+1) k=z1S d (TVAL d f h (2*k)) (TVAL d f h (2*k+1)):=by
  unfold TVAL
  rw [zcG,HX.VAL]
theorem za5 {M:Nat→Nat→List Int}:∀ {ss:List (Nat × Nat)},(∀ s∈ss,(M s.1 s.2).length=32)→∀ {t h k:Nat},ss[t]?=some (h,k)→HSH (CAT M ss) t=M h k
  | [],_,t,h,k,e=>by simp at e
  | s :: ss,hl,0,h,k,e=>by
    simp only [List.getElem?_cons_zero,Option.some.injEq] at e
    subst e
    have h1:=hl (h,k) (List.mem_cons_self ..)
    unfold HSH CAT
    rw [List.flatMap_cons,Nat.mul_zero,List.drop_zero,List.take_append_of_le_length (by omega),List.take_of_length_le (by omega)]
  | s :: ss,hl,t+1,h,k,e=>by
    have h1:=hl s (List.mem_cons_self ..)
    have ih:=za5 (fun x hx=>hl x (List.mem_cons_of_mem _ hx)) (t:=t) (h:=h) (k:=k) (by simpa using e)
    rw [← ih]
    unfold HSH CAT
    rw [List.flatMap_cons,List.drop_append,List.drop_of_length_le (by omega),List.nil_append,h1,show 32*(t+1) - 32=32*t by omega]
theorem zei (d:Int) (f:Nat→Nat→Nat) {m:Nat} (hm:m≤1000000):HX.PKV d f m=(SPAN 0 m).map fun s=>HX.VAL d f s.1 s.2:=by
  have hl:=HX.z3Y d f (m:=m) (by omega)
  have hs:=z2W (n:=m) (by omega)
  apply List.ext_getElem (by rw [hl,List.length_map,hs])
  intro i h1 h2
  have hi:i<PC m:=by omega
  have h3:=z2X (n:=m) (i:=i) (by omega) hi
  have h4:(SPAN 0 m)[i]'(by omega)=(HGT m i,KGT m i):=by
    rw [List.getElem?_eq_getElem (by omega)] at h3
    exact Option.some.inj h3
  rw [List.getElem_map,h4]
  unfold HX.PKV at h1 ⊢
  rw [List.getElem_map]
  have h5:i<(HS 0 m).length:=by simpa using h1
  have e:(HS 0 m)[i]=HGT m i:=by unfold HGT;rw [List.getD_eq_getElem?_getD,List.getElem?_eq_getElem h5,Option.getD_some]
  rw [e]
  rfl
theorem zcK {d:Int} {l:List Int} {v:Nat→Nat→Nat} {n:Nat} (h:∀ i,i<n→HSH l i=LST (v i)) (hn:0<n):∀ k,k<n→FA d l n k=LST (HX.FAF d v n k)
  | 0,_=>by rw [FA,HX.FAF,h _ (by omega)]
  | k+1,hk=>by rw [FA,HX.FAF,zcK h hn k (by omega),h _ (by omega),zcH]
theorem zfq {d:Int} {l:List Int} {v:Nat→Nat→Nat} {n:Nat} (h:∀ i,i<n→HSH l i=LST (v i)):FLD d l n=LST (HX.FLDF d v n):=by
  unfold FLD HX.FLDF
  by_cases hn:n=0
  · rw [if_pos hn,if_pos hn]
    rfl
  · rw [if_neg hn,if_neg hn]
    exact zcK h (by omega) _ (by omega)
theorem zcL (d:Int) (f:Nat→Nat→Nat) {m:Nat} (hm:m≤1000000):BAGA d m (PC m) (CAT (TVAL d f) (SPAN 0 m))=(0,LST (HX.z16 d f m)):=by
  unfold BAGA
  rw [if_neg (by omega),if_neg (by simp)]
  unfold HX.z16
  rw [← zcI]
  congr 2
  apply zfq
  intro i hi
  have h3:=z2X (n:=m) (i:=i) (by omega) hi
  rw [za5 (fun s _=>z2v d f s.1 s.2) h3]
  unfold TVAL
  congr 1
  rw [zei d f hm,List.getD_eq_getElem?_getD,List.getElem?_map,h3]
  rfl
end Go.Proofs.YtjkjlblongeljaaGreatDoor

namespace Go.Proofs.YtjkjlblongeljaaGreatDoor
set_option maxRecDepth 100000
end Go.Proofs.YtjkjlblongeljaaGreatDoor

namespace Go.Proofs.YtjkjlblongeljaaGreatDoor
open Go.RowKit
set_option maxRecDepth 100000
end Go.Proofs.YtjkjlblongeljaaGreatDoor

namespace Go.Proofs.YtjkjlblongeljaaGreatDoor
open Go.RowKit
set_option maxRecDepth 100000
end Go.Proofs.YtjkjlblongeljaaGreatDoor

namespace Go.Proofs.YtjkjlblongeljaaGreatDoor
open Go.RowKit
set_option maxRecDepth 100000
end Go.Proofs.YtjkjlblongeljaaGreatDoor

namespace Go.Proofs.YtjkjlblongeljaaGreatDoor
open Go.RowKit
set_option maxRecDepth 100000
end Go.Proofs.YtjkjlblongeljaaGreatDoor

namespace Go.Proofs.YtjkjlblongeljaaGreatDoor
open Go.RowKit
set_option maxRecDepth 100000
theorem zcM {n:Nat} (hn:n≤4611686018427387904):TOPS 0 n=SPAN 0 n:=by
  have hl:=z8J (n:=n) (by omega) 0 (by omega)
  rw [Nat.pow_zero,Nat.div_one] at hl
  refine List.ext_getElem? fun j=>?_
  by_cases hj:j<PC n
  · rw [zeV (by omega) hj,z2X hn hj]
  · rw [List.getElem?_eq_none (by omega),List.getElem?_eq_none (by rw [z2W hn];omega)]
theorem Flat.take {w:World} {a:Option Addr} {n:Nat} {l:List Int} (h:Flat w a n l) {m:Nat} (hm:m≤n):Flat w a m (l.take (32*m)):=by
  refine ⟨by rw [List.length_take,h.1];omega,fun h0=>?_,fun x hx=>h.2.2 x (List.mem_of_mem_take hx)⟩
  obtain ⟨b,o,e,hb,hc⟩:=h.2.1 (by omega)
  refine ⟨b,o,e,hb,fun j hj=>?_⟩
  rw [hc j (by omega)]
  congr 2
  rw [List.getD_eq_getElem?_getD,List.getD_eq_getElem?_getD,List.getElem?_take,if_pos (by omega)]
end Go.Proofs.YtjkjlblongeljaaGreatDoor

namespace Go.Proofs.YtjkjlblongeljaaGreatDoor
set_option maxRecDepth 100000
theorem z9c (V:Nat→Nat→List Int):∃ G:Nat→List Int,∀ h k,Node h k→G (PLC h k)=V h k:=by
  classical
  refine ⟨fun p=>if h:∃ s:Nat × Nat,Node s.1 s.2∧PLC s.1 s.2=p then V h.choose.1 h.choose.2 else [],fun h k hN=>?_⟩
  have he:∃ s:Nat × Nat,Node s.1 s.2∧PLC s.1 s.2=PLC h k:=⟨(h,k),hN,rfl⟩
  dsimp only
  rw [dif_pos he]
  obtain ⟨h1,h2⟩:=he.choose_spec
  obtain ⟨e1,e2⟩:=Node.one h1 hN h2
  rw [e1,e2]
theorem z71:∀ (ps:List (Nat × Nat)) (A B:Nat) (L:List Nat),Tile A ps B→∀ s∈NSPS ps L,Node s.1 s.2
  | [],_,_,_,_=>fun s hs=>by cases hs
  | (h,k) :: ps,A,B,L,ht=>fun s hs=>by
    obtain ⟨hN,hA,ht⟩:Node h k∧k*2 ^ h=A∧Tile ((k+1)*2 ^ h) ps B:=ht
    rw [NSPS] at hs
    rcases List.mem_append.1 hs with hs | hs
    · exact z5i h k _ hN s hs
    · exact z71 ps _ B _ ht s hs
theorem z6p {V:Nat→Nat→List Int} (h:∀ a b,(V a b).length=32):∀ ss:List (Nat × Nat),(CAT V ss).length=32*ss.length
  | []=>rfl
  | s :: ss=>by
    have:=z6p h ss
    unfold CAT at this ⊢
    rw [List.flatMap_cons,List.length_append,this,h,List.length_cons]
    omega
theorem z8g (d:Int) (f:Nat→Nat→Nat) {n:Nat} (hn:n≤1000) {L:List Nat} (hr:z0c L n=0):
    MDC (MWRT L n (CAT (TVAL d f) (NSPS (TPS n) L)))=(0,n,L,CAT (TVAL d f) (NSPS (TPS n) L))∧z17 d n (FLD d (MUPS d (TPS n) L (L.flatMap (TVAL d f 0)) (CAT (TVAL d f) (NSPS (TPS n) L))) (PC n))=LST (HX.z16 d f n):=by
  obtain ⟨r1,r2,r3⟩:=z1q hr
  have ham:AMID 0 n L:=fun x hx=>⟨Nat.zero_le _,r3 x hx⟩
  have htl:=z20 (n:=n) (by omega)
  have hfew:=z3g (TPS n) 0 n L htl ham r2
  have hlen:(CAT (TVAL d f) (NSPS (TPS n) L)).length=32*(z08 (TPS n) L).length:=by
    rw [z6p (z2v d f),z1L,List.length_map]
  refine ⟨zeg (z4G hr rfl) hlen (by omega),?_⟩
  obtain ⟨G,hG⟩:=z9c (TVAL d f)
  have e:CAT (TVAL d f) (NSPS (TPS n) L)=(z08 (TPS n) L).flatMap G:=by
    rw [z1L,List.flatMap_map]
    exact z5j fun s hs=>(hG s.1 s.2 (z71 (TPS n) 0 n L htl s hs)).symm
  have e2:=z6M (z2v d f) (zcJ d f) hG (TPS n) 0 n L htl ham r2
  rw [e,e2]
  have hB:=zcL d f (m:=n) (by omega)
  rw [z5T d n (by omega)] at hB
  have e3:(TPS n).flatMap (fun s=>TVAL d f s.1 s.2)=CAT (TVAL d f) (SPAN 0 n):=by
    rw [← zcM (n:=n) (by omega)]
    rfl
  rw [e3]
  exact (Prod.mk.inj hB).2
end Go.Proofs.YtjkjlblongeljaaGreatDoor

namespace Go.Proofs.YtjkjlblongeljaaGreatDoor
open Go.RowKit
set_option maxRecDepth 100000
set_option maxHeartbeats 1000000 in
theorem z9d (a b:Option Addr) (n ca cb:Nat) (L:List Nat) (hl:L.length=n) (hn:n≤2 ^ 24) (w:World) (hA:NUML w a L) (hB:NUML w b L):
    Calls Tryz.prog 42 #[.slice a n ca,.slice b n cb] w fun e w'=>e=.returned (.bool true)∧Below w.heap.size w w':=by
  rcases Nat.eq_zero_or_pos n with h | h
  · subst h
    clear hA hB hl
    go_enter Tryz.func42,Tryz.ntmps42
    go_wp2
    refine wp_loop_rounds 1 ?_
    rw [rounds_succ]
    go_wp2
    go_ret
    exact ⟨rfl,Below.refl _ _⟩
  · obtain ⟨ga,oa,rfl,la,hca⟩:=hA (by omega)
    obtain ⟨gb,ob,rfl,lb,hcb⟩:=hB (by omega)
    have HC:Aside ((∀ (i x:Nat),L[i]?=some x→w.cell? ⟨ga,oa+i,none⟩=some (.int .u64 (x:Int)))∧(∀ (i x:Nat),L[i]?=some x→w.cell? ⟨gb,ob+i,none⟩=some (.int .u64 (x:Int)))∧ga<w.heap.size∧gb<w.heap.size∧L.length=n∧n≤2 ^ 24):=⟨hca,hcb,la,lb,hl,hn⟩
    clear hA hB hca hcb la lb hl hn
    go_enter Tryz.func42,Tryz.ntmps42
    go_wp2
    go_loopg [5] n (fun g s5 wx=>∃ k:Nat,k+g=n∧s5=.int .i64 k∧Aside (Below w.heap.size w wx))
    case atStart=>exact ⟨0,by omega,rfl,Below.refl _ _⟩
    case round=>
      obtain ⟨k,hkg,rfl,A⟩:=hrel
      cases gk with
      | zero=>
        obtain rfl:k=n:=by omega
        go_wp2
        go_ret
        exact ⟨rfl,A.out⟩
      | succ g=>
        have hlt:(k:Int)<(n:Int):=by omega
        obtain ⟨x,ex⟩:∃ x,L[k]?=some x:=⟨_,List.getElem?_eq_getElem (by have:=HC.out.2.2.2.2.1;omega)⟩
        have h1:wr.cell? ⟨ga,oa+k,none⟩=some (.int .u64 (x:Int)):=(A.out.cell (by exact HC.out.2.2.1)).trans (HC.out.1 k x ex)
        have h2:wr.cell? ⟨gb,ob+k,none⟩=some (.int .u64 (x:Int)):=(A.out.cell (by exact HC.out.2.2.2.1)).trans (HC.out.2.1 k x ex)
        have hk24:k<2 ^ 24:=by have:=HC.out.2.2.2.2.2;omega
        clear ex
        go_wp2
        go_quiet (fail)
        go_wp2
        go_roundg g
        case measure=>omega
        case rel=>exact ⟨k+1,by omega,by go_num,below_drewN A.out _⟩
end Go.Proofs.YtjkjlblongeljaaGreatDoor
