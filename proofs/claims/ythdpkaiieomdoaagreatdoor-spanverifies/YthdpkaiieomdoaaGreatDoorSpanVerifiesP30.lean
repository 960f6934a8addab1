/- Texts of SpanVerifies, one behind the other: SpanRefNeedsRegion, SpanRefNeeds. -/
import Derived.Test.YthdpkaiieomdoaaGreatDoorSpanVerifiesP23
namespace Go.Proofs.YthdpkaiieomdoaaGreatDoor
set_option linter.unusedSimpArgs false
open Go.RowKit
set_option maxRecDepth 100000
@[go_sem] def RN6OPSq0:Oper:=⟨some 29,.buildSlice 73 0 #[],73,"ref.go:34",#[],none⟩
@[go_sem] def RN6OPSq1:Oper:=⟨some 30,.move (.tmp 7),73,"ref.go:34",#[],none⟩
@[go_sem] def RN6OPSq2:Oper:=⟨some 31,.call {callee:=.builtin .append,args:=#[.tmp 29,.tmp 30],argTypes:=#[73,73]},73,"ref.go:34",#[⟨0,.data⟩,⟨1,.data⟩],none⟩
@[go_sem] def RN6OPSq3:Oper:=⟨some 32,.fieldAddr 78 (.tmp 3) 0,0,"ref.go:34",#[],none⟩
@[go_sem] def RN6OPSq4:Oper:=⟨some 33,.load 5 (.tmp 32),5,"ref.go:34",#[⟨3,.data⟩],none⟩
@[go_sem] def RN6OPSq5:Oper:=⟨some 34,.binOp .sub 5 (.tmp 33) (.const (.int .u8 1)) 5,5,"ref.go:34",#[⟨4,.data⟩],none⟩
@[go_sem] def RN6OPSq6:Oper:=⟨some 35,.fieldAddr 78 (.tmp 3) 1,0,"ref.go:34",#[],none⟩
@[go_sem] def RN6OPSq7:Oper:=⟨some 36,.load 24 (.tmp 35),24,"ref.go:34",#[⟨6,.data⟩],none⟩
@[go_sem] def RN6OPSq8:Oper:=⟨some 37,.binOp .mul 24 (.const (.int .u64 2)) (.tmp 36) 24,24,"ref.go:34",#[⟨7,.data⟩],none⟩
@[go_sem] def RN6OPSq9:Oper:=⟨some 38,.binOp .add 24 (.tmp 37) (.const (.int .u64 1)) 24,24,"ref.go:34",#[⟨8,.data⟩],none⟩
@[go_sem] def RN6OPSq10:Oper:=⟨some 39,.build 78 #[(0,.tmp 34),(1,.tmp 38)],78,"ref.go:34",#[⟨5,.data⟩,⟨9,.data⟩],none⟩
@[go_sem] def RN6OPSq11:Oper:=⟨some 40,.move (.tmp 1),24,"ref.go:34",#[],none⟩
@[go_sem] def RN6OPSq12:Oper:=⟨some 41,.move (.tmp 2),24,"ref.go:34",#[],none⟩
@[go_sem] def RN6OPSq13:Oper:=⟨some 42,.call {callee:=.value (.func 112),args:=#[.tmp 39,.tmp 40,.tmp 41],argTypes:=#[78,24,24]},73,"ref.go:34",#[⟨10,.data⟩,⟨11,.data⟩,⟨12,.data⟩,⟨2,.chain⟩],none⟩
@[go_sem] def RN6OPSq14:Oper:=⟨some 43,.call {callee:=.builtin .append,args:=#[.tmp 31,.tmp 42],argTypes:=#[73,73]},73,"ref.go:34",#[⟨2,.data⟩,⟨13,.data⟩,⟨13,.chain⟩],none⟩
@[go_sem] def RN6OPSq15:Oper:=⟨some 6,.assign (.tmp 43),73,"ref.go:34",#[⟨14,.data⟩,⟨14,.chain⟩,⟨0,.phase⟩,⟨1,.phase⟩,⟨2,.phase⟩,⟨3,.phase⟩,⟨4,.phase⟩,⟨5,.phase⟩,⟨6,.phase⟩,⟨7,.phase⟩,⟨8,.phase⟩,⟨9,.phase⟩,⟨10,.phase⟩,⟨11,.phase⟩,⟨12,.phase⟩,⟨13,.phase⟩,⟨14,.phase⟩],none⟩
def z3n:Array Oper:=#[RN6OPSq0,RN6OPSq1,RN6OPSq2,RN6OPSq3,RN6OPSq4,RN6OPSq5,RN6OPSq6,RN6OPSq7,RN6OPSq8,RN6OPSq9,RN6OPSq10,RN6OPSq11,RN6OPSq12,RN6OPSq13,RN6OPSq14,RN6OPSq15]
set_option maxHeartbeats 2000000 in
theorem zeK {Q:Exit→Act→World→Prop} {u0 u4 u5 u6 u8 u9 u10 u11 u12 u13 u14 u15 u16 u17 u18 u19 u20 u21 u22 u23 u24 u25 u26 u27 u28 u29 u30 u31 u32 u33 u34 u35 u36 u37 u38 u39 u40 u41 u42 u43:Value} (W:World) (b H h kx k2 k3:Nat) (F T:Nat) (Bo:Nat) (ao:Option Addr) (mo co m2:Nat) (A B:List (Nat × Nat)) (hb:b<W.heap.size) (hc0:W.cell? ⟨b,0,none⟩=some (.int .u8 (H:Int))) (hc1:W.cell? ⟨b,1,none⟩=some (.int .u64 (kx:Int))) (e1:IntKind.u8.wrap ((H:Int) - 1)=(h:Int)) (e2:IntKind.u64.wrap (2*(kx:Int))=(k2:Int)) (e3:IntKind.u64.wrap ((k2:Int)+1)=(k3:Int))
    (hO:W.ownsRow Bo 78 2 (.slice ao mo co) mo (z0b A)) (hmm:mo+m2≤2 ^ 26)
    (c1:∀ w,Below W.heap.size W w→Calls Tryz.prog 112 #[.agg #[.int .u8 (h:Int),.int .u64 (k3:Int)],.int .u64 (F:Int),.int .u64 (T:Int)] w fun e w'=>∃ a2 q2,e=.returned (.slice a2 m2 q2)∧w'.ownsRow w.heap.size 78 2 (.slice a2 m2 q2) m2 (z0b B)∧Below w.heap.size w w') (hQ:∀ c (a:Act) (t:Tmp) (v:Value) w,Q (.panic c) (a.put (some t) v) w→Q (.panic c) a w)
    (hfin:∀ (z:Nat) (a1:Option Addr) (q1:Nat) (a2:Option Addr) (q2:Nat) (a3:Option Addr) (q3:Nat) (w:World),(Below W.heap.size W w∧w.ownsRow W.heap.size 78 2 (.slice a3 (mo+m2) q3) (mo+m2) (z0b (A ++ B)))→Q .normal {tmps:=#[u0,.int .u64 (F:Int),.int .u64 (T:Int),.pointer (some ⟨b,0,none⟩),u4,u5,.slice a3 (mo+m2) q3,.slice ao mo co,u8,u9,u10,u11,u12,u13,u14,u15,u16,u17,u18,u19,u20,u21,u22,u23,u24,u25,u26,u27,u28,.slice (some ⟨z,0,none⟩) 0 0,.slice ao mo co,.slice a1 mo q1,.pointer (some ⟨b,0,none⟩),.int .u8 (H:Int),.int .u8 (h:Int),.pointer (some ⟨b,1,none⟩),.int .u64 (kx:Int),.int .u64 (k2:Int),.int .u64 (k3:Int),.agg #[.int .u8 (h:Int),.int .u64 (k3:Int)],.int .u64 (F:Int),.int .u64 (T:Int),.slice a2 m2 q2,.slice a3 (mo+m2) q3],defers:=[]} w):(Code.region 6 z3n true).wp Tryz.prog Q {tmps:=#[u0,.int .u64 (F:Int),.int .u64 (T:Int),.pointer (some ⟨b,0,none⟩),u4,u5,u6,.slice ao mo co,u8,u9,u10,u11,u12,u13,u14,u15,u16,u17,u18,u19,u20,u21,u22,u23,u24,u25,u26,u27,u28,u29,u30,u31,u32,u33,u34,u35,u36,u37,u38,u39,u40,u41,u42,u43],defers:=[]} W:=by
  have ekst0_2_13_14:∀ (z:Nat) (a1:Option Addr) (q1:Nat) (a2:Option Addr) (q2:Nat) (a3:Option Addr) (q3:Nat) (w:World),(Below W.heap.size W w∧w.ownsRow W.heap.size 78 2 (.slice a3 (mo+m2) q3) (mo+m2) (z0b (A ++ B)))→wpAnyH Tryz.prog .any z3n Q (fun w:World=>w.cell? ⟨b,0,none⟩=some (.int .u8 (H:Int))∧w.cell? ⟨b,1,none⟩=some (.int .u64 (kx:Int))) 1 #[true,true,true,true,true,true,true,true,true,true,true,true,true,true,true,false] {tmps:=#[u0,.int .u64 (F:Int),.int .u64 (T:Int),.pointer (some ⟨b,0,none⟩),u4,u5,u6,.slice ao mo co,u8,u9,u10,u11,u12,u13,u14,u15,u16,u17,u18,u19,u20,u21,u22,u23,u24,u25,u26,u27,u28,.slice (some ⟨z,0,none⟩) 0 0,.slice ao mo co,.slice a1 mo q1,.pointer (some ⟨b,0,none⟩),.int .u8 (H:Int),.int .u8 (h:Int),.pointer (some ⟨b,1,none⟩),.int .u64 (kx:Int),.int .u64 (k2:Int),.int .u64 (k3:Int),.agg #[.int .u8 (h:Int),.int .u64 (k3:Int)],.int .u64 (F:Int),.int .u64 (T:Int),.slice a2 m2 q2,.slice a3 (mo+m2) q3],defers:=[]} w:=fun z a1 q1 a2 q2 a3 q3 w hp=>by
    have hww:(fun w:World=>w.cell? ⟨b,0,none⟩=some (.int .u8 (H:Int))∧w.cell? ⟨b,1,none⟩=some (.int .u64 (kx:Int))) w:=⟨(hp.1.cell (p:=⟨b,0,none⟩) hb).trans hc0,(hp.1.cell (p:=⟨b,1,none⟩) hb).trans hc1⟩
    refine tkP RN6OPSq15 (.slice a3 (mo+m2) q3) 15 hQ hww ?_
    simp only [List.set]
    exact wpAnyH_done (by kernel_rfl) (hfin z a1 q1 a2 q2 a3 q3 w hp) _
  have kst0_2:∀ (z:Nat) (a1:Option Addr) (q1:Nat) (w:World),(Below W.heap.size W w∧w.ownsRow W.heap.size 78 2 (.slice a1 mo q1) mo (z0b A))→wpAnyH Tryz.prog .any z3n Q (fun w:World=>w.cell? ⟨b,0,none⟩=some (.int .u8 (H:Int))∧w.cell? ⟨b,1,none⟩=some (.int .u64 (kx:Int))) 3 #[true,true,true,true,true,true,true,true,true,true,true,true,true,false,false,false] {tmps:=#[u0,.int .u64 (F:Int),.int .u64 (T:Int),.pointer (some ⟨b,0,none⟩),u4,u5,u6,.slice ao mo co,u8,u9,u10,u11,u12,u13,u14,u15,u16,u17,u18,u19,u20,u21,u22,u23,u24,u25,u26,u27,u28,.slice (some ⟨z,0,none⟩) 0 0,.slice ao mo co,.slice a1 mo q1,.pointer (some ⟨b,0,none⟩),.int .u8 (H:Int),.int .u8 (h:Int),.pointer (some ⟨b,1,none⟩),.int .u64 (kx:Int),.int .u64 (k2:Int),.int .u64 (k3:Int),.agg #[.int .u8 (h:Int),.int .u64 (k3:Int)],.int .u64 (F:Int),.int .u64 (T:Int),u42,u43],defers:=[]} w:=fun z a1 q1 w hp=>by
    refine wpAnyH_ready (rs:=[13]) (by kernel_rfl) (by simp) ?_
    refine AllReadyH.cons (o:=RN6OPSq13) rfl (fun KQ hKQ=>?_) ?_
    · rw [if_pos (by rfl)]
      go_simp
      refine (show Calls _ _ _ w (fun e w'=>∃ (a2:Option Addr) (q2:Nat),e=.returned (.slice a2 m2 q2)∧(Below W.heap.size W w'∧w'.ownsRow W.heap.size 78 2 (.slice a1 mo q1) mo (z0b A)∧w'.ownsRow W.heap.size 78 2 (.slice a2 m2 q2) m2 (z0b B))) from (c1 w hp.1).mono fun e w' ⟨a2,q2,he,h⟩=>⟨a2,q2,he,hp.1.trans (h.2.mono hp.1.size),z0v hp.2 h.2,z0f h.1 hp.1.size⟩).mono ?_
      rintro e w ⟨a2,q2,rfl,hp⟩
      refine hKQ.out _ _ (⟨(hp.1.cell (p:=⟨b,0,none⟩) hb).trans hc0,(hp.1.cell (p:=⟨b,1,none⟩) hb).trans hc1⟩) (fun _=>?_)
      simp only [List.setIfInBounds_toArray,List.set]
      refine wpAnyH_ready (rs:=[14]) (by kernel_rfl) (by simp) ?_
      refine AllReadyH.cons (o:=RN6OPSq14) rfl (fun KQ hKQ=>?_) ?_
      · exact z1B (by rfl) (z57 w rfl (.tmp 31) (.tmp 42) rfl W.heap.size (.slice a1 mo q1) mo A rfl hp.2.1 W.heap.size a2 m2 q2 B rfl hp.2.2 hmm hp.1.size (fun a3 q3 w' h1 h2=>⟨rfl,(have hp:(fun (z:Nat) (a1:Option Addr) (q1:Nat) (a2:Option Addr) (q2:Nat) (a3:Option Addr) (q3:Nat) (w:World)=>(Below W.heap.size W w∧w.ownsRow W.heap.size 78 2 (.slice a3 (mo+m2) q3) (mo+m2) (z0b (A ++ B)))) z a1 q1 a2 q2 a3 q3 w':=⟨hp.1.grown h2 hp.1.size (fun k e=>(hp.2.1.lt k e).1),h1⟩;hKQ.out _ _ (⟨(hp.1.cell (p:=⟨b,0,none⟩) hb).trans hc0,(hp.1.cell (p:=⟨b,1,none⟩) hb).trans hc1⟩) (fun _=>ekst0_2_13_14 z a1 q1 a2 q2 a3 q3 _ hp))⟩))
      exact AllReadyH.nil
    exact AllReadyH.nil
  have kst0:∀ (z:Nat) (w:World),(Below W.heap.size W w∧w.ownsRow W.heap.size 78 2 (.slice (some ⟨z,0,none⟩) 0 0) 0 (z0b []))→wpAnyH Tryz.prog .any z3n Q (fun w:World=>w.cell? ⟨b,0,none⟩=some (.int .u8 (H:Int))∧w.cell? ⟨b,1,none⟩=some (.int .u64 (kx:Int))) 4 #[true,true,false,true,true,true,true,true,true,true,true,true,true,false,false,false] {tmps:=#[u0,.int .u64 (F:Int),.int .u64 (T:Int),.pointer (some ⟨b,0,none⟩),u4,u5,u6,.slice ao mo co,u8,u9,u10,u11,u12,u13,u14,u15,u16,u17,u18,u19,u20,u21,u22,u23,u24,u25,u26,u27,u28,.slice (some ⟨z,0,none⟩) 0 0,.slice ao mo co,u31,.pointer (some ⟨b,0,none⟩),.int .u8 (H:Int),.int .u8 (h:Int),.pointer (some ⟨b,1,none⟩),.int .u64 (kx:Int),.int .u64 (k2:Int),.int .u64 (k3:Int),.agg #[.int .u8 (h:Int),.int .u64 (k3:Int)],.int .u64 (F:Int),.int .u64 (T:Int),u42,u43],defers:=[]} w:=fun z w hp=>by
    refine wpAnyH_ready (rs:=[2]) (by kernel_rfl) (by simp) ?_
    refine AllReadyH.cons (o:=RN6OPSq2) rfl (fun KQ hKQ=>?_) ?_
    · exact z1B (by rfl) (z57 w rfl (.tmp 29) (.tmp 30) rfl W.heap.size (.slice (some ⟨z,0,none⟩) 0 0) 0 [] rfl hp.2 Bo ao mo co A rfl (z0v hO (hp.1.mono (Nat.le_refl _))) (by omega) hp.1.size (by rw [Nat.zero_add,List.nil_append];exact fun a1 q1 w' h1 h2=>⟨rfl,(have hp:(fun (z:Nat) (a1:Option Addr) (q1:Nat) (w:World)=>(Below W.heap.size W w∧w.ownsRow W.heap.size 78 2 (.slice a1 mo q1) mo (z0b A))) z a1 q1 w':=⟨hp.1.grown h2 hp.1.size (fun k e=>(hp.2.lt k e).1),h1⟩;hKQ.out _ _ (⟨(hp.1.cell (p:=⟨b,0,none⟩) hb).trans hc0,(hp.1.cell (p:=⟨b,1,none⟩) hb).trans hc1⟩) (fun _=>kst0_2 z a1 q1 _ hp))⟩))
    exact AllReadyH.nil
  have kst:∀ (w:World),(Below W.heap.size W w∧True)→wpAnyH Tryz.prog .any z3n Q (fun w:World=>w.cell? ⟨b,0,none⟩=some (.int .u8 (H:Int))∧w.cell? ⟨b,1,none⟩=some (.int .u64 (kx:Int))) 5 #[false,true,false,true,true,true,true,true,true,true,true,true,true,false,false,false] {tmps:=#[u0,.int .u64 (F:Int),.int .u64 (T:Int),.pointer (some ⟨b,0,none⟩),u4,u5,u6,.slice ao mo co,u8,u9,u10,u11,u12,u13,u14,u15,u16,u17,u18,u19,u20,u21,u22,u23,u24,u25,u26,u27,u28,u29,.slice ao mo co,u31,.pointer (some ⟨b,0,none⟩),.int .u8 (H:Int),.int .u8 (h:Int),.pointer (some ⟨b,1,none⟩),.int .u64 (kx:Int),.int .u64 (k2:Int),.int .u64 (k3:Int),.agg #[.int .u8 (h:Int),.int .u64 (k3:Int)],.int .u64 (F:Int),.int .u64 (T:Int),u42,u43],defers:=[]} w:=fun  w hp=>by
    refine wpAnyH_ready (rs:=[0]) (by kernel_rfl) (by simp) ?_
    refine AllReadyH.cons (o:=RN6OPSq0) rfl (fun KQ hKQ=>?_) ?_
    · exact z1C (by rfl) (by go_simp) (have hp:(fun (z:Nat) (w:World)=>(Below W.heap.size W w∧w.ownsRow W.heap.size 78 2 (.slice (some ⟨z,0,none⟩) 0 0) 0 (z0b []))) w.heap.size _:=⟨hp.1.alloc hp.1.size _,z0f (zaF w) hp.1.size⟩;hKQ.out _ _ (⟨(hp.1.cell (p:=⟨b,0,none⟩) hb).trans hc0,(hp.1.cell (p:=⟨b,1,none⟩) hb).trans hc1⟩) (fun _=>kst0 w.heap.size _ hp))
    exact AllReadyH.nil
  have hp:=(⟨(Below.refl W.heap.size W).drew,trivial⟩:Below W.heap.size W W.drew∧True)
  have hww:(fun w:World=>w.cell? ⟨b,0,none⟩=some (.int .u8 (H:Int))∧w.cell? ⟨b,1,none⟩=some (.int .u64 (kx:Int))) W.drew:=⟨(hp.1.cell (p:=⟨b,0,none⟩) hb).trans hc0,(hp.1.cell (p:=⟨b,1,none⟩) hb).trans hc1⟩
  have last:=kst W.drew hp
  have z:wpAnyH Tryz.prog .any z3n Q (fun w:World=>w.cell? ⟨b,0,none⟩=some (.int .u8 (H:Int))∧w.cell? ⟨b,1,none⟩=some (.int .u64 (kx:Int))) 16 #[false,false,false,false,false,false,false,false,false,false,false,false,false,false,false,false] {tmps:=#[u0,.int .u64 (F:Int),.int .u64 (T:Int),.pointer (some ⟨b,0,none⟩),u4,u5,u6,.slice ao mo co,u8,u9,u10,u11,u12,u13,u14,u15,u16,u17,u18,u19,u20,u21,u22,u23,u24,u25,u26,u27,u28,u29,u30,u31,u32,u33,u34,u35,u36,u37,u38,u39,u40,u41,u42,u43],defers:=[]} W.drew:=by
    refine tkP RN6OPSq1 (.slice ao mo co) 1 hQ hww ?_
    simp only [List.set]
    refine tkP RN6OPSq3 (.pointer (some ⟨b,0,none⟩)) 3 hQ hww ?_
    simp only [List.set]
    refine tkH RN6OPSq4 (.int .u8 (H:Int)) 4 hQ (Or.inl ⟨by rfl,fun w hw=>by have hx:=hw.1;go_simp⟩) hww ?_
    simp only [List.set]
    refine tkH RN6OPSq5 (.int .u8 (h:Int)) 5 hQ (Or.inl ⟨by rfl,fun w hw=>by have hx:=e1;go_simp⟩) hww ?_
    simp only [List.set]
    refine tkP RN6OPSq6 (.pointer (some ⟨b,1,none⟩)) 6 hQ hww ?_
    simp only [List.set]
    refine tkH RN6OPSq7 (.int .u64 (kx:Int)) 7 hQ (Or.inl ⟨by rfl,fun w hw=>by have hx:=hw.2;go_simp⟩) hww ?_
    simp only [List.set]
    refine tkH RN6OPSq8 (.int .u64 (k2:Int)) 8 hQ (Or.inl ⟨by rfl,fun w hw=>by have hx:=e2;go_simp⟩) hww ?_
    simp only [List.set]
    refine tkH RN6OPSq9 (.int .u64 (k3:Int)) 9 hQ (Or.inl ⟨by rfl,fun w hw=>by have hx:=e3;go_simp⟩) hww ?_
    simp only [List.set]
    refine tkP RN6OPSq10 (.agg #[.int .u8 (h:Int),.int .u64 (k3:Int)]) 10 hQ hww ?_
    simp only [List.set]
    refine tkP RN6OPSq11 (.int .u64 (F:Int)) 11 hQ hww ?_
    simp only [List.set]
    refine tkP RN6OPSq12 (.int .u64 (T:Int)) 12 hQ hww ?_
    simp only [List.set]
    exact last
  exact wp_region_held_drew (S:=(fun w:World=>w.cell? ⟨b,0,none⟩=some (.int .u8 (H:Int))∧w.cell? ⟨b,1,none⟩=some (.int .u64 (kx:Int)))) (by kernel_rfl) hww (fun _=>z)
end Go.Proofs.YthdpkaiieomdoaaGreatDoor

namespace Go.Proofs.YthdpkaiieomdoaaGreatDoor
open Go.RowKit
set_option maxRecDepth 100000
theorem z6T {F T h k:Nat} (e:APRT F T h k):NSP h k (SG F T h k)=[(h,k)]:=by rw [SG,z4I e,z6i]
theorem zdD {F T h k:Nat} (e:¬ APRT F T (h+1) k):NSP (h+1) k (SG F T (h+1) k)=NSP h (2*k) (SG F T h (2*k)) ++ NSP h (2*k+1) (SG F T h (2*k+1)):=by
  obtain ⟨s1,s2⟩:=z5q F T h k
  have hne:SG F T (h+1) k≠[]:=z4r (Nat.lt_of_not_le e)
  cases hs:SG F T (h+1) k with
  | nil=>exact absurd hs hne
  | cons x l=>rw [NSP,← hs,s1,s2]
theorem z5Y {F T h k:Nat} (e:z0N F T h k):NSP h k (SG F T h k)=[]:=by
  have h1:=z0Z e
  rw [z31] at h1
  exact List.map_eq_nil_iff.1 h1
theorem z9O (F T h k:Nat):(NSP h k (SG F T h k)).length≤1+h*z0R F T h k:=by
  have h1:=z3P F T h k
  rw [z31,List.length_map] at h1
  exact h1
theorem z6U (F T h k:Nat):z0R F T h k≤2:=by
  unfold z0R
  (repeat' split) <;> omega
structure NUMS (h k A B:Nat) (z:Int):Prop where
  a:IntKind.u64.wrap ((k:Int)*z)=(A:Int)
  k1:IntKind.u64.wrap ((k:Int)+1)=((k+1:Nat):Int)
  b:IntKind.u64.wrap (((k+1:Nat):Int)*z)=(B:Int)
theorem z6V {h k:Nat} (hN:Node h k):NUMS h k (k*2 ^ h) ((k+1)*2 ^ h) ((2 ^ h:Nat):Int):=by
  have h1:(k+1)*2 ^ h≤2 ^ 62:=by
    have h2:(k+1)*2 ^ h≤2 ^ (62 - h)*2 ^ h:=Nat.mul_le_mul_right _ hN.2
    rw [← Nat.pow_add,show 62 - h+h=62 by have:=hN.1;omega] at h2
    exact h2
  have h3:k*2 ^ h≤(k+1)*2 ^ h:=Nat.mul_le_mul_right _ (by omega)
  have h4:k+1≤(k+1)*2 ^ h:=Nat.le_mul_of_pos_right _ (Nat.two_pow_pos h)
  refine ⟨?_,?_,?_⟩
  · rw [← Int.natCast_mul,z09];generalize k*2 ^ h=A at *;omega
  · rw [z09];omega
  · rw [← Int.natCast_mul,z09];generalize (k+1)*2 ^ h=B at *;omega
set_option maxHeartbeats 2000000 in
theorem z1Z (h k F T:Nat) (hN:Node h k) (w:World):Calls Tryz.prog 77 #[SPOT h k,.int .u64 (F:Int),.int .u64 (T:Int)] w fun e w'=>e=.returned (.bool (decide (¬ APRT F T h k)))∧Below w.heap.size w w':=by
  have cp:=z1y h (by have:=hN.1;omega)
  have hm:wrap64 (h:Int)=(h:Int):=by have:=hN.1;unfold wrap64;omega
  obtain ⟨n1,n2,n3⟩:=z6V hN
  obtain ⟨r,hr⟩:∃ r,decide (¬ APRT F T h k)=r:=⟨_,rfl⟩
  have hlt:k*2 ^ h<(k+1)*2 ^ h:=by
    have:k*2 ^ h+2 ^ h=(k+1)*2 ^ h:=by rw [Nat.add_mul,Nat.one_mul]
    have:=Nat.two_pow_pos h
    omega
  unfold APRT at hr
  rw [hr]
  generalize k*2 ^ h=A at *
  generalize (k+1)*2 ^ h=B at *
  have g:(¬ (F:Int)<(T:Int)∧r=false)∨((F:Int)<(T:Int)∧¬ (A:Int)<(T:Int)∧r=false)∨((F:Int)<(T:Int)∧(A:Int)<(T:Int)∧¬ (F:Int)<(B:Int)∧r=false)∨((F:Int)<(T:Int)∧(A:Int)<(T:Int)∧(F:Int)<(B:Int)∧r=true):=by
    by_cases h1:F<T
    · by_cases h2:A<T
      · by_cases h3:F<B
        · exact .inr (.inr (.inr ⟨by omega,by omega,by omega,by rw [← hr];exact decide_eq_true (by omega)⟩))
        · exact .inr (.inr (.inl ⟨by omega,by omega,by omega,by rw [← hr];exact decide_eq_false (by omega)⟩))
      · exact .inr (.inl ⟨by omega,by omega,by rw [← hr];exact decide_eq_false (by omega)⟩)
    · exact .inl ⟨by omega,by rw [← hr];exact decide_eq_false (by omega)⟩
  clear hr hlt hN
  obtain ⟨w1,e1⟩:∃ w1,w.alloc (.cells #[.int .u8 (h:Int),.int .u64 (k:Int)] 78)=w1:=⟨_,rfl⟩
  have hB:Has w1 w.heap.size #[.int .u8 (h:Int),.int .u64 (k:Int)] 78:=by rw [← e1];exact Has.new w _ _
  have hb1:Below w.heap.size w w1:=by rw [← e1];exact (Below.refl _ _).alloc (Nat.le_refl _) _
  have c0:=hB.cell 0
  have c1:=hB.cell 1
  have HB:Aside (Below w.heap.size w w1):=hb1
  clear hB hb1
  generalize ((2 ^ h:Nat):Int)=z at *
  generalize hk1:((k+1:Nat):Int)=k1 at *
  clear hk1
  have hS:SPOT h k=.agg #[.int .u8 (h:Int),.int .u64 (k:Int)]:=rfl
  rcases g with ⟨g1,rfl⟩ | ⟨g1,g2,rfl⟩ | ⟨g1,g2,g3,rfl⟩ | ⟨g1,g2,g3,rfl⟩
  all_goals
    go_enter Tryz.func77,Tryz.ntmps77
    rw [hS]
    go_wp2_with fail
    refine (cp _).mono ?_
    rintro e w' ⟨rfl,rfl⟩
    clear cp hm
    go_wp2_with fail
    go_ret
    exact ⟨by first | rfl | exact congrArg (fun b=>Ending.returned (.bool b)) (decide_eq_false (by omega)) | exact congrArg (fun b=>Ending.returned (.bool b)) (decide_eq_true (by omega)),HB.out⟩
set_option maxHeartbeats 2000000 in
theorem z5Z (h k F T:Nat) (hN:Node h k) (w:World):Calls Tryz.prog 160 #[SPOT h k,.int .u64 (F:Int),.int .u64 (T:Int)] w fun e w'=>e=.returned (.bool (decide (z0N F T h k)))∧Below w.heap.size w w':=by
  have cp:=z1y h (by have:=hN.1;omega)
  have hm:wrap64 (h:Int)=(h:Int):=by have:=hN.1;unfold wrap64;omega
  obtain ⟨n1,n2,n3⟩:=z6V hN
  obtain ⟨r,hr⟩:∃ r,decide (z0N F T h k)=r:=⟨_,rfl⟩
  unfold z0N at hr
  rw [hr]
  generalize k*2 ^ h=A at *
  generalize (k+1)*2 ^ h=B at *
  have g:(¬ (F:Int)≤(A:Int)∧r=false)∨((F:Int)≤(A:Int)∧¬ (B:Int)≤(T:Int)∧r=false)∨((F:Int)≤(A:Int)∧(B:Int)≤(T:Int)∧r=true):=by
    by_cases h1:F≤A
    · by_cases h2:B≤T
      · exact .inr (.inr ⟨by omega,by omega,by rw [← hr];exact decide_eq_true ⟨h1,h2⟩⟩)
      · exact .inr (.inl ⟨by omega,by omega,by rw [← hr];exact decide_eq_false fun h=>h2 h.2⟩)
    · exact .inl ⟨by omega,by rw [← hr];exact decide_eq_false fun h=>h1 h.1⟩
  clear hr hN
  obtain ⟨w1,e1⟩:∃ w1,w.alloc (.cells #[.int .u8 (h:Int),.int .u64 (k:Int)] 78)=w1:=⟨_,rfl⟩
  have hB:Has w1 w.heap.size #[.int .u8 (h:Int),.int .u64 (k:Int)] 78:=by rw [← e1];exact Has.new w _ _
  have hb1:Below w.heap.size w w1:=by rw [← e1];exact (Below.refl _ _).alloc (Nat.le_refl _) _
  have c0:=hB.cell 0
  have c1:=hB.cell 1
  have HB:Aside (Below w.heap.size w w1):=hb1
  clear hB hb1
  generalize ((2 ^ h:Nat):Int)=z at *
  generalize hk1:((k+1:Nat):Int)=k1 at *
  clear hk1
  have hS:SPOT h k=.agg #[.int .u8 (h:Int),.int .u64 (k:Int)]:=rfl
  rcases g with ⟨g1,rfl⟩ | ⟨g1,g2,rfl⟩ | ⟨g1,g2,rfl⟩
  all_goals
    go_enter Tryz.func160,Tryz.ntmps160
    rw [hS]
    go_wp2_with fail
    refine (cp _).mono ?_
    rintro e w' ⟨rfl,rfl⟩
    clear cp hm
    go_wp2_with fail
    go_ret
    exact ⟨by first | rfl | exact congrArg (fun b=>Ending.returned (.bool b)) (decide_eq_false (by omega)) | exact congrArg (fun b=>Ending.returned (.bool b)) (decide_eq_true (by omega)),HB.out⟩
def z2u (w:World) (l:List (Nat × Nat)) (e:Ending) (w':World):Prop:=∃ a c,e=.returned (.slice a l.length c)∧w'.ownsRow w.heap.size 78 2 (.slice a l.length c) l.length (z0b l)∧Below w.heap.size w w'
set_option maxHeartbeats 2000000 in
theorem z4z (h k F T:Nat) (hN:Node h k) (e:APRT F T h k) (w:World):
    Calls Tryz.prog 112 #[SPOT h k,.int .u64 (F:Int),.int .u64 (T:Int)] w (z2u w [(h,k)]):=by
  obtain ⟨w1,e1⟩:∃ w1,w.alloc (.cells #[.int .u8 (h:Int),.int .u64 (k:Int)] 78)=w1:=⟨_,rfl⟩
  have hB:Has w1 w.heap.size #[.int .u8 (h:Int),.int .u64 (k:Int)] 78:=by rw [← e1];exact Has.new w _ _
  have hb1:Below w.heap.size w w1:=by rw [← e1];exact (Below.refl _ _).alloc (Nat.le_refl _) _
  have cu:=z1Z h k F T hN w1
  rw [decide_eq_false (fun h=>h e)] at cu
  have HA:Aside (Has w1 w.heap.size #[.int .u8 (h:Int),.int .u64 (k:Int)] 78∧Below w.heap.size w w1):=⟨hB,hb1⟩
  have x0:=hB.cell 0
  have x1:=hB.cell 1
  clear hN e hB hb1
  unfold SPOT at *
  go_enter Tryz.func112,Tryz.ntmps112
  go_wp2_with fail
  refine cu.mono ?_
  rintro e w2 ⟨rfl,hb2⟩
  have k2:=HA.out.1.keep hb2
  have x0:=k2.cell 0
  have x1:=k2.cell 1
  have FN:Aside (Below w.heap.size w w2):=HA.out.2.trans (hb2.mono HA.out.2.size)
  clear cu hb2 k2 HA e1
  go_wp2_with fail
  go_ret
  exact ⟨_,_,rfl,z0f (zbV w2 h k) FN.out.size,FN.out.alloc FN.out.size _⟩
set_option maxHeartbeats 2000000 in
theorem z3Y (h k F T:Nat) (hN:Node h k) (e:z0N F T h k) (w:World):
    Calls Tryz.prog 112 #[SPOT h k,.int .u64 (F:Int),.int .u64 (T:Int)] w (z2u w []):=by
  obtain ⟨w1,e1⟩:∃ w1,w.alloc (.cells #[.int .u8 (h:Int),.int .u64 (k:Int)] 78)=w1:=⟨_,rfl⟩
  have hB:Has w1 w.heap.size #[.int .u8 (h:Int),.int .u64 (k:Int)] 78:=by rw [← e1];exact Has.new w _ _
  have hb1:Below w.heap.size w w1:=by rw [← e1];exact (Below.refl _ _).alloc (Nat.le_refl _) _
  have cu:=z1Z h k F T hN w1
  rw [decide_eq_true (z2D e)] at cu
  have cw:=fun w=>z5Z h k F T hN w
  rw [decide_eq_true e] at cw
  have HA:Aside (Has w1 w.heap.size #[.int .u8 (h:Int),.int .u64 (k:Int)] 78∧Below w.heap.size w w1):=⟨hB,hb1⟩
  have x0:=hB.cell 0
  have x1:=hB.cell 1
  clear hN e hB hb1
  unfold SPOT at *
  go_enter Tryz.func112,Tryz.ntmps112
  go_wp2_with fail
  refine cu.mono ?_
  rintro e w2 ⟨rfl,hb2⟩
  have k2:=HA.out.1.keep hb2
  have x0:=k2.cell 0
  have x1:=k2.cell 1
  have FN:Aside (Below w.heap.size w w2):=HA.out.2.trans (hb2.mono HA.out.2.size)
  clear cu hb2 k2 HA e1
  go_wp2_with fail
  refine (cw w2).mono ?_
  rintro e w3 ⟨rfl,hb3⟩
  have F2:Aside (Below w.heap.size w w3):=FN.out.trans (hb3.mono FN.out.size)
  clear cw hb3 FN x0 x1
  go_wp2_with fail
  go_ret
  exact ⟨none,0,rfl,⟨rfl,.inl ⟨rfl,rfl⟩⟩,F2.out⟩
set_option maxHeartbeats 4000000 in
theorem z99 (h k F T:Nat) (hN:Node (h+1) k) (e:¬ APRT F T (h+1) k) (e':¬ z0N F T (h+1) k) (w:World)
    (ih:∀ (k:Nat),Node h k→∀ (w:World),Calls Tryz.prog 112 #[SPOT h k,.int .u64 (F:Int),.int .u64 (T:Int)] w (z2u w (NSP h k (SG F T h k)))):
    Calls Tryz.prog 112 #[SPOT (h+1) k,.int .u64 (F:Int),.int .u64 (T:Int)] w (z2u w (NSP (h+1) k (SG F T (h+1) k))):=by
  rw [zdD e]
  obtain ⟨w1,e1⟩:∃ w1,w.alloc (.cells #[.int .u8 ((h+1:Nat):Int),.int .u64 (k:Int)] 78)=w1:=⟨_,rfl⟩
  have hB:Has w1 w.heap.size #[.int .u8 ((h+1:Nat):Int),.int .u64 (k:Int)] 78:=by rw [← e1];exact Has.new w _ _
  have hb1:Below w.heap.size w w1:=by rw [← e1];exact (Below.refl _ _).alloc (Nat.le_refl _) _
  have cu:=z1Z (h+1) k F T hN w1
  rw [decide_eq_true e] at cu
  have cw:=fun w=>z5Z (h+1) k F T hN w
  rw [decide_eq_false e'] at cw
  obtain ⟨hNl,hNr⟩:=hN.kid
  have m1:=z9O F T h (2*k)
  have m2:=z9O F T h (2*k+1)
  have q1:=z6U F T h (2*k)
  have q2:=z6U F T h (2*k+1)
  have hh62:=hN.1
  have hk62:=hN.2
  have hp62:2 ^ (62 - (h+1))≤2 ^ 62:=Nat.pow_le_pow_right (by decide) (by omega)
  have s1:h*z0R F T h (2*k)≤62*2:=Nat.mul_le_mul (by omega) q1
  have s2:h*z0R F T h (2*k+1)≤62*2:=Nat.mul_le_mul (by omega) q2
  have IH1:Aside (∀ W,Calls Tryz.prog 112 #[.agg #[.int .u8 (h:Int),.int .u64 ((2*k:Nat):Int)],.int .u64 (F:Int),.int .u64 (T:Int)] W (z2u W (NSP h (2*k) (SG F T h (2*k))))):=fun W=>ih (2*k) hNl W
  have IH2:Aside (∀ W,Calls Tryz.prog 112 #[.agg #[.int .u8 (h:Int),.int .u64 ((2*k+1:Nat):Int)],.int .u64 (F:Int),.int .u64 (T:Int)] W (z2u W (NSP h (2*k+1) (SG F T h (2*k+1))))):=fun W=>ih (2*k+1) hNr W
  generalize NSP h (2*k) (SG F T h (2*k))=A at *
  generalize NSP h (2*k+1) (SG F T h (2*k+1))=B at *
  have ew1:IntKind.u8.wrap (((h+1:Nat):Int) - 1)=(h:Int):=by
    show (((h+1:Nat):Int) - 1) % 256=(h:Int)
    omega
  have ew2:IntKind.u64.wrap (2*(k:Int))=((2*k:Nat):Int):=by rw [z09];omega
  have ew3:IntKind.u64.wrap (((2*k:Nat):Int)+1)=((2*k+1:Nat):Int):=by rw [z09];omega
  have HA:Aside (Has w1 w.heap.size #[.int .u8 ((h+1:Nat):Int),.int .u64 (k:Int)] 78∧Below w.heap.size w w1∧A.length+B.length≤2 ^ 26):=⟨hB,hb1,by omega⟩
  have EW:Aside (IntKind.u8.wrap (((h+1:Nat):Int) - 1)=(h:Int)∧IntKind.u64.wrap (2*(k:Int))=((2*k:Nat):Int)∧IntKind.u64.wrap (((2*k:Nat):Int)+1)=((2*k+1:Nat):Int)):=⟨ew1,ew2,ew3⟩
  have hS:SPOT (h+1) k=.agg #[.int .u8 ((h+1:Nat):Int),.int .u64 (k:Int)]:=rfl
  have x0:=hB.cell 0
  have x1:=hB.cell 1
  rw [hS] at *
  clear e e' hB hb1 hNl hNr m1 m2 q1 q2 hk62 hh62 hp62 s1 s2 ih hN ew3
  generalize h+1=H at *
  generalize 2*k=k2 at *
  generalize k2+1=k3 at *
  go_enter Tryz.func112,Tryz.ntmps112
  go_wp2_with fail
  refine cu.mono ?_
  rintro e w2 ⟨rfl,hb2⟩
  have k2h:=HA.out.1.keep hb2
  have x0:=k2h.cell 0
  have x1:=k2h.cell 1
  have N2:Aside (Has w2 w.heap.size #[.int .u8 (H:Int),.int .u64 (k:Int)] 78∧Below w.heap.size w w2):=⟨k2h,HA.out.2.1.trans (hb2.mono HA.out.2.1.size)⟩
  clear cu hb2 k2h e1
  go_wp2_with fail
  refine (cw w2).mono ?_
  rintro e w3 ⟨rfl,hb3⟩
  have k3h:=N2.out.1.keep hb3
  have x0:=k3h.cell 0
  have x1:=k3h.cell 1
  have N3:Aside (Has w3 w.heap.size #[.int .u8 (H:Int),.int .u64 (k:Int)] 78∧Below w.heap.size w w3):=⟨k3h,N2.out.2.trans (hb3.mono N2.out.2.size)⟩
  have c1:=IH1.out w3
  clear cw hb3 k3h N2 IH1
  go_wp2_with fail
  refine c1.mono ?_
  rintro e w4 ⟨a4,c4,rfl,hown4,hb4⟩
  have N4:Aside (Has w4 w.heap.size #[.int .u8 (H:Int),.int .u64 (k:Int)] 78∧Below w.heap.size w w4∧w4.ownsRow w3.heap.size 78 2 (.slice a4 A.length c4) A.length (z0b A)):=⟨N3.out.1.keep hb4,N3.out.2.trans (hb4.mono N3.out.2.size),hown4⟩
  clear c1 hown4 hb4 N3 x0 x1 ew1 ew2
  go_upto_region 6 with fail
  refine zeK w4 w.heap.size H h k k2 k3 F T w3.heap.size a4 A.length c4 B.length A B N4.out.1.lt (N4.out.1.cell 0) (N4.out.1.cell 1) EW.out.1 EW.out.2.1 EW.out.2.2 N4.out.2.2 HA.out.2.2 (fun W hb=>IH2.out W) (fun _ _ _ _ _ h=>h) ?_
  intro z a5 q5 a6 q6 a7 q7 w5 ⟨hb5,hown5⟩
  have FN:Aside (z2u w (A ++ B) (.returned (.slice a7 (A.length+B.length) q7)) w5):=⟨a7,q7,by rw [List.length_append],by rw [List.length_append];exact z0f hown5 N4.out.2.1.size,N4.out.2.1.trans (hb5.mono N4.out.2.1.size)⟩
  clear hb5 hown5 N4 IH2 EW HA
  dsimp only
  go_wp2_with fail
  go_ret
  exact FN.out
theorem zcf (F T:Nat):∀ (h k:Nat),Node h k→∀ (w:World),Calls Tryz.prog 112 #[SPOT h k,.int .u64 (F:Int),.int .u64 (T:Int)] w (z2u w (NSP h k (SG F T h k))):=by
  intro h
  induction h with
  | zero=>
    intro k hN w
    by_cases e:APRT F T 0 k
    · rw [z6T e]
      exact z4z 0 k F T hN e w
    · rw [z5Y (z1l e)]
      exact z3Y 0 k F T hN (z1l e) w
  | succ h ih=>
    intro k hN w
    by_cases e:APRT F T (h+1) k
    · rw [z6T e]
      exact z4z (h+1) k F T hN e w
    · by_cases e':z0N F T (h+1) k
      · rw [z5Y e']
        exact z3Y (h+1) k F T hN e' w
      · exact z99 h k F T hN e e' w ih
end Go.Proofs.YthdpkaiieomdoaaGreatDoor
