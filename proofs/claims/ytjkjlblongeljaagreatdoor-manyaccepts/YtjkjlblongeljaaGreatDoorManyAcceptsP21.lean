/- Texts of ManyAccepts, one behind the other: VerifyRegions, VerifyHanded, VerifyPeaks, MmrPlain, StoreCalls, StoreSearch, StoreFind, StoreMap. -/
import Derived.Deep.RegionHeld3
import Derived.Maps.OwnSet
import Derived.DeepKeys4
import Derived.Test.YtjkjlblongeljaaGreatDoorManyAcceptsP20
namespace Go.Proofs.YtjkjlblongeljaaGreatDoor
open Go.RowKit
set_option maxRecDepth 100000
theorem z8U {w:World} {g:Nat} {x y:List Int} (h:Has w g (z00 x).toArray 35) (hx:x.length=32) (hy:y.length=32):(Instr.storeAt 35 (.pointer (some ⟨g,0,none⟩)) (.agg (z00 y).toArray)).run Tryz.prog w=.ok () (w.setRow g (z00 y).toArray):=by
  simp only [Instr.storeAt,Instr.sureAddr,Sem.run_bind,Sem.run_pure,Result.andThen]
  exact run_storeVar_row w g 35 35 (z00 x).toArray (z00 y).toArray h (z0d hy) (by simp [z00,hx,hy]) (z0m y)
def z1W:Array Oper:=#[⟨some 25,.move (.tmp 0),3,"grow.go:30",#[],none⟩,⟨some 26,.move (.tmp 1),22,"grow.go:30",#[],none⟩,⟨some 27,.move (.tmp 7),3,"grow.go:30",#[],none⟩,⟨some 28,.indexAddr 22 (.tmp 26) (.tmp 27),0,"grow.go:30",#[⟨1,.data⟩,⟨2,.data⟩],none⟩,⟨some 29,.load 35 (.tmp 28),35,"grow.go:30",#[⟨3,.data⟩],none⟩,⟨some 30,.load 35 (.tmp 6),35,"grow.go:30",#[],none⟩,⟨some 31,.call {callee:=.value (.func 123),args:=#[.tmp 25,.tmp 29,.tmp 30],argTypes:=#[3,35,35]},35,"grow.go:30",#[⟨0,.data⟩,⟨4,.data⟩,⟨5,.data⟩],none⟩,⟨none,.store 35 (.tmp 6) (.tmp 31),0,"grow.go:30",#[⟨6,.data⟩,⟨6,.chain⟩,⟨0,.phase⟩,⟨1,.phase⟩,⟨2,.phase⟩,⟨3,.phase⟩,⟨4,.phase⟩,⟨5,.phase⟩,⟨6,.phase⟩],none⟩]
set_option maxHeartbeats 2000000 in
theorem z75 {Q:Exit→Act→World→Prop} (u2 u3 u4 u5 u8 u9 u10 u11 u12 u13 u14 u15 u16 u17 u18 u19 u20 u21 u22 u23 u24 u25 u26 u27 u28 u29 u30 u31 u32:Value) (W:World) (b6 gn o n c i:Nat) (d:Int) (L R Y:List Int) (hL:L.length=32) (hR:R.length=32) (hY:Y.length=32) (b1:(i:Int)<(n:Int)) (hLr:W.drew.rangeAt gn (o+i*32) (z00 L)) (hRr:W.drew.rangeAt b6 0 (z00 R)) (T:World→Prop) (cF:Calls Tryz.prog 123 #[.int .i64 d,.agg (z00 L).toArray,.agg (z00 R).toArray] W.drew fun e w'=>∃ X,e=.returned X∧(X=.agg (z00 Y).toArray∧Has w' b6 (z00 R).toArray 35∧T w')) (hQ:∀ c (a:Act) (t:Tmp) (v:Value) w,Q (.panic c) (a.put (some t) v) w→Q (.panic c) a w)
    (h:∀ (X:Value) (w':World),(X=.agg (z00 Y).toArray∧Has w' b6 (z00 R).toArray 35∧T w')→Q .normal {tmps:=#[.int .i64 d,.slice (some ⟨gn,o,none⟩) n c,u2,u3,u4,u5,.pointer (some ⟨b6,0,none⟩),.int .i64 (i:Int),u8,u9,u10,u11,u12,u13,u14,u15,u16,u17,u18,u19,u20,u21,u22,u23,u24,.int .i64 d,.slice (some ⟨gn,o,none⟩) n c,.int .i64 (i:Int),.pointer (some ⟨gn,o+i*32,none⟩),.agg (z00 L).toArray,.agg (z00 R).toArray,X,u32],defers:=[]} (World.setRow w' b6 (z00 Y).toArray)):(Code.region 8 z1W true).wp Tryz.prog Q {tmps:=#[.int .i64 d,.slice (some ⟨gn,o,none⟩) n c,u2,u3,u4,u5,.pointer (some ⟨b6,0,none⟩),.int .i64 (i:Int),u8,u9,u10,u11,u12,u13,u14,u15,u16,u17,u18,u19,u20,u21,u22,u23,u24,u25,u26,u27,u28,u29,u30,u31,u32],defers:=[]} W:=by
  have kX:∀ (X:Value) (w':World),(X=.agg (z00 Y).toArray∧Has w' b6 (z00 R).toArray 35∧T w')→wpAny Tryz.prog .any z1W Q 1 #[true,true,true,true,true,true,true,false] {tmps:=#[.int .i64 d,.slice (some ⟨gn,o,none⟩) n c,u2,u3,u4,u5,.pointer (some ⟨b6,0,none⟩),.int .i64 (i:Int),u8,u9,u10,u11,u12,u13,u14,u15,u16,u17,u18,u19,u20,u21,u22,u23,u24,.int .i64 d,.slice (some ⟨gn,o,none⟩) n c,.int .i64 (i:Int),.pointer (some ⟨gn,o+i*32,none⟩),.agg (z00 L).toArray,.agg (z00 R).toArray,X,u32],defers:=[]} w':=fun X w' hX=>by
    have z:wpAny Tryz.prog .any z1W Q 0 #[true,true,true,true,true,true,true,true] {tmps:=#[.int .i64 d,.slice (some ⟨gn,o,none⟩) n c,u2,u3,u4,u5,.pointer (some ⟨b6,0,none⟩),.int .i64 (i:Int),u8,u9,u10,u11,u12,u13,u14,u15,u16,u17,u18,u19,u20,u21,u22,u23,u24,.int .i64 d,.slice (some ⟨gn,o,none⟩) n c,.int .i64 (i:Int),.pointer (some ⟨gn,o+i*32,none⟩),.agg (z00 L).toArray,.agg (z00 R).toArray,X,u32],defers:=[]} (World.setRow w' b6 (z00 Y).toArray):=wpAny_done (by kernel_rfl) (h X w' hX) _
    have z7:wpAny Tryz.prog .any z1W Q 1 #[true,true,true,true,true,true,true,false] {tmps:=#[.int .i64 d,.slice (some ⟨gn,o,none⟩) n c,u2,u3,u4,u5,.pointer (some ⟨b6,0,none⟩),.int .i64 (i:Int),u8,u9,u10,u11,u12,u13,u14,u15,u16,u17,u18,u19,u20,u21,u22,u23,u24,.int .i64 d,.slice (some ⟨gn,o,none⟩) n c,.int .i64 (i:Int),.pointer (some ⟨gn,o+i*32,none⟩),.agg (z00 L).toArray,.agg (z00 R).toArray,X,u32],defers:=[]} w':=by
      refine wpAny_ready (rs:=[7]) (by kernel_rfl) (by simp) ?_
      exact AllReady.cons (o:=⟨none,.store 35 (.tmp 6) (.tmp 31),0,"grow.go:30",#[⟨6,.data⟩,⟨6,.chain⟩,⟨0,.phase⟩,⟨1,.phase⟩,⟨2,.phase⟩,⟨3,.phase⟩,⟨4,.phase⟩,⟨5,.phase⟩,⟨6,.phase⟩],none⟩) rfl (fun K hK=>z0Q rfl (z1j (by obtain ⟨rfl,hb,_⟩:=hX;exact z8U hb hR hY)) (hK _ _ z)) AllReady.nil
    exact z7
  have s4_5:wpAny Tryz.prog .any z1W Q 2 #[true,true,true,true,true,true,false,false] {tmps:=#[.int .i64 d,.slice (some ⟨gn,o,none⟩) n c,u2,u3,u4,u5,.pointer (some ⟨b6,0,none⟩),.int .i64 (i:Int),u8,u9,u10,u11,u12,u13,u14,u15,u16,u17,u18,u19,u20,u21,u22,u23,u24,.int .i64 d,.slice (some ⟨gn,o,none⟩) n c,.int .i64 (i:Int),.pointer (some ⟨gn,o+i*32,none⟩),.agg (z00 L).toArray,.agg (z00 R).toArray,u31,u32],defers:=[]} W.drew:=by
    refine wpAny_ready (rs:=[6]) (by kernel_rfl) (by simp) ?_
    refine AllReady.cons (o:=⟨some 31,.call {callee:=.value (.func 123),args:=#[.tmp 25,.tmp 29,.tmp 30],argTypes:=#[3,35,35]},35,"grow.go:30",#[⟨0,.data⟩,⟨4,.data⟩,⟨5,.data⟩],none⟩) rfl (fun K hK=>?_) ?_
    · rw [if_pos (by rfl)]
      go_simp
      refine (cF).mono ?_
      rintro e w' ⟨X,rfl,hX⟩
      exact hK _ _ (kX X w' hX)
    exact AllReady.nil
  have s5:wpAny Tryz.prog .any z1W Q 3 #[true,true,true,true,false,true,false,false] {tmps:=#[.int .i64 d,.slice (some ⟨gn,o,none⟩) n c,u2,u3,u4,u5,.pointer (some ⟨b6,0,none⟩),.int .i64 (i:Int),u8,u9,u10,u11,u12,u13,u14,u15,u16,u17,u18,u19,u20,u21,u22,u23,u24,.int .i64 d,.slice (some ⟨gn,o,none⟩) n c,.int .i64 (i:Int),.pointer (some ⟨gn,o+i*32,none⟩),u29,.agg (z00 R).toArray,u31,u32],defers:=[]} W.drew:=by
    refine wpAny_ready (rs:=[4]) (by kernel_rfl) (by simp) ?_
    refine AllReady.cons (o:=⟨some 29,.load 35 (.tmp 28),35,"grow.go:30",#[⟨3,.data⟩],none⟩) rfl (fun K hK=>z07 (v:=.agg (z00 L).toArray) rfl (z09 (run_loadAt_mid (P:=Tryz.prog) _ gn (o+i*32) 35 _ _ hLr Tryz.underlying35 rfl (z0l hL))) (hK _ _ s4_5)) ?_
    exact AllReady.nil
  have s4:wpAny Tryz.prog .any z1W Q 3 #[true,true,true,true,true,false,false,false] {tmps:=#[.int .i64 d,.slice (some ⟨gn,o,none⟩) n c,u2,u3,u4,u5,.pointer (some ⟨b6,0,none⟩),.int .i64 (i:Int),u8,u9,u10,u11,u12,u13,u14,u15,u16,u17,u18,u19,u20,u21,u22,u23,u24,.int .i64 d,.slice (some ⟨gn,o,none⟩) n c,.int .i64 (i:Int),.pointer (some ⟨gn,o+i*32,none⟩),.agg (z00 L).toArray,u30,u31,u32],defers:=[]} W.drew:=by
    refine wpAny_ready (rs:=[5]) (by kernel_rfl) (by simp) ?_
    refine AllReady.cons (o:=⟨some 30,.load 35 (.tmp 6),35,"grow.go:30",#[],none⟩) rfl (fun K hK=>z07 (v:=.agg (z00 R).toArray) rfl (z09 (run_loadAt_mid (P:=Tryz.prog) _ b6 0 35 _ _ hRr Tryz.underlying35 rfl (z0l hR))) (hK _ _ s4_5)) ?_
    exact AllReady.nil
  have s:wpAny Tryz.prog .any z1W Q 4 #[true,true,true,true,false,false,false,false] {tmps:=#[.int .i64 d,.slice (some ⟨gn,o,none⟩) n c,u2,u3,u4,u5,.pointer (some ⟨b6,0,none⟩),.int .i64 (i:Int),u8,u9,u10,u11,u12,u13,u14,u15,u16,u17,u18,u19,u20,u21,u22,u23,u24,.int .i64 d,.slice (some ⟨gn,o,none⟩) n c,.int .i64 (i:Int),.pointer (some ⟨gn,o+i*32,none⟩),u29,u30,u31,u32],defers:=[]} W.drew:=by
    refine wpAny_ready (rs:=[4,5]) (by kernel_rfl) (by simp) ?_
    refine AllReady.cons (o:=⟨some 29,.load 35 (.tmp 28),35,"grow.go:30",#[⟨3,.data⟩],none⟩) rfl (fun K hK=>z07 (v:=.agg (z00 L).toArray) rfl (z09 (run_loadAt_mid (P:=Tryz.prog) _ gn (o+i*32) 35 _ _ hLr Tryz.underlying35 rfl (z0l hL))) (hK _ _ s4)) ?_
    refine AllReady.cons (o:=⟨some 30,.load 35 (.tmp 6),35,"grow.go:30",#[],none⟩) rfl (fun K hK=>z07 (v:=.agg (z00 R).toArray) rfl (z09 (run_loadAt_mid (P:=Tryz.prog) _ b6 0 35 _ _ hRr Tryz.underlying35 rfl (z0l hR))) (hK _ _ s5)) ?_
    exact AllReady.nil
  have t3:wpAny Tryz.prog .any z1W Q 5 #[true,true,true,false,false,false,false,false] {tmps:=#[.int .i64 d,.slice (some ⟨gn,o,none⟩) n c,u2,u3,u4,u5,.pointer (some ⟨b6,0,none⟩),.int .i64 (i:Int),u8,u9,u10,u11,u12,u13,u14,u15,u16,u17,u18,u19,u20,u21,u22,u23,u24,.int .i64 d,.slice (some ⟨gn,o,none⟩) n c,.int .i64 (i:Int),u28,u29,u30,u31,u32],defers:=[]} W.drew:=
    wpAny_take (i:=3) (oi:=⟨some 28,.indexAddr 22 (.tmp 26) (.tmp 27),0,"grow.go:30",#[⟨1,.data⟩,⟨2,.data⟩],none⟩) (v:=.pointer (some ⟨gn,o+i*32,none⟩)) rfl (by kernel_rfl) (by kernel_rfl) (by kernel_rfl) (fun _ _ _ h=>hQ _ _ _ _ _ h) (Or.inl ⟨by rfl,fun W=>by go_simp⟩) s
  have t2:wpAny Tryz.prog .any z1W Q 6 #[true,true,false,false,false,false,false,false] {tmps:=#[.int .i64 d,.slice (some ⟨gn,o,none⟩) n c,u2,u3,u4,u5,.pointer (some ⟨b6,0,none⟩),.int .i64 (i:Int),u8,u9,u10,u11,u12,u13,u14,u15,u16,u17,u18,u19,u20,u21,u22,u23,u24,.int .i64 d,.slice (some ⟨gn,o,none⟩) n c,u27,u28,u29,u30,u31,u32],defers:=[]} W.drew:=
    wpAny_take (i:=2) (oi:=⟨some 27,.move (.tmp 7),3,"grow.go:30",#[],none⟩) (v:=.int .i64 (i:Int)) rfl (by kernel_rfl) (by kernel_rfl) (by kernel_rfl) (fun _ _ _ h=>hQ _ _ _ _ _ h) (Or.inl ⟨by rfl,fun W=>by go_simp⟩) t3
  have t1:wpAny Tryz.prog .any z1W Q 7 #[true,false,false,false,false,false,false,false] {tmps:=#[.int .i64 d,.slice (some ⟨gn,o,none⟩) n c,u2,u3,u4,u5,.pointer (some ⟨b6,0,none⟩),.int .i64 (i:Int),u8,u9,u10,u11,u12,u13,u14,u15,u16,u17,u18,u19,u20,u21,u22,u23,u24,.int .i64 d,u26,u27,u28,u29,u30,u31,u32],defers:=[]} W.drew:=
    wpAny_take (i:=1) (oi:=⟨some 26,.move (.tmp 1),22,"grow.go:30",#[],none⟩) (v:=.slice (some ⟨gn,o,none⟩) n c) rfl (by kernel_rfl) (by kernel_rfl) (by kernel_rfl) (fun _ _ _ h=>hQ _ _ _ _ _ h) (Or.inl ⟨by rfl,fun W=>by go_simp⟩) t2
  have t0:wpAny Tryz.prog .any z1W Q 8 #[false,false,false,false,false,false,false,false] {tmps:=#[.int .i64 d,.slice (some ⟨gn,o,none⟩) n c,u2,u3,u4,u5,.pointer (some ⟨b6,0,none⟩),.int .i64 (i:Int),u8,u9,u10,u11,u12,u13,u14,u15,u16,u17,u18,u19,u20,u21,u22,u23,u24,u25,u26,u27,u28,u29,u30,u31,u32],defers:=[]} W.drew:=
    wpAny_take (i:=0) (oi:=⟨some 25,.move (.tmp 0),3,"grow.go:30",#[],none⟩) (v:=.int .i64 d) rfl (by kernel_rfl) (by kernel_rfl) (by kernel_rfl) (fun _ _ _ h=>hQ _ _ _ _ _ h) (Or.inl ⟨by rfl,fun W=>by go_simp⟩) t1
  refine wp_region_any (by kernel_rfl) ?_
  exact t0
end Go.Proofs.YtjkjlblongeljaaGreatDoor

namespace Go.Proofs.YtjkjlblongeljaaGreatDoor
open Go.RowKit
set_option maxRecDepth 100000
theorem zc5 {w:World} {g:Nat} {l:List Int} {t:TypeId} (h:Has w g (z00 l).toArray t):w.rangeAt g 0 (z00 l):=fun j v hv=>by rw [Nat.zero_add,h.cell,List.getElem?_toArray];exact hv
end Go.Proofs.YtjkjlblongeljaaGreatDoor

namespace Go.Proofs.YtjkjlblongeljaaGreatDoor
open Go.RowKit
set_option maxRecDepth 100000
def CAT (M:Nat→Nat→List Int) (ss:List (Nat × Nat)):List Int:=ss.flatMap fun s=>M s.1 s.2
theorem zdX {M:Nat→Nat→List Int} {ss:List (Nat × Nat)} {i h k:Nat} (hs:ss[i]?=some (h,k)):CAT M (ss.take (i+1))=CAT M (ss.take i) ++ M h k:=by
  rw [List.take_add_one,hs]
  simp [CAT]
end Go.Proofs.YtjkjlblongeljaaGreatDoor

namespace Go.Proofs.YtjkjlblongeljaaGreatDoor.HX
open Go.RowKit
set_option maxRecDepth 100000
def z7e (d:Int) (l r:Nat→Nat):Nat→Nat:=HX.z0y d (1 :: ((List.range 32).map l ++ (List.range 32).map r))
theorem zdY (d:Int) (l r:Nat→Nat) (i:Nat):z7e d l r i<256:=HX.z1X d _ _ i
def VAL (d:Int) (f:Nat→Nat→Nat):Nat→Nat→Nat→Nat
  | 0,k=>f k
  | h+1,k=>z7e d (VAL d f h (2*k)) (VAL d f h (2*k+1))
theorem z2g {d:Int} {f:Nat→Nat→Nat} {n:Nat} (hf:∀ k,k<n→∀ i,f k i<256):∀ (h k:Nat),(k+1)*2 ^ h≤n→∀ i,VAL d f h k i<256
  | 0,k,hk,i=>hf k (by simp at hk;omega) i
  | h+1,k,_,i=>zdY _ _ _ i
theorem z1F {d:Int} {f g:Nat→Nat→Nat} {n:Nat} (hfg:∀ k,k<n→f k=g k):∀ (h k:Nat),(k+1)*2 ^ h≤n→VAL d f h k=VAL d g h k
  | 0,k,hk=>hfg k (by simp at hk;omega)
  | h+1,k,hk=>by
    have e:(k+1)*2 ^ (h+1)=(2*k+1+1)*2 ^ h:=by rw [Nat.pow_succ,show 2*k+1+1=(k+1)*2 by omega,Nat.mul_assoc,Nat.mul_comm (2 ^ h) 2]
    have h2:(2*k+1+1)*2 ^ h≤n:=by omega
    have h1:(2*k+1)*2 ^ h≤n:=Nat.le_trans (Nat.mul_le_mul_right _ (by omega)) h2
    rw [VAL,VAL,z1F hfg h (2*k) h1,z1F hfg h (2*k+1) h2]
def z0A (f:Nat→Nat→Nat) (n:Nat) (x:Nat→Nat):Nat→Nat→Nat:=fun k=>if k=n then x else f k
theorem z7X (f:Nat→Nat→Nat) (n:Nat) (x:Nat→Nat):z0A f n x n=x:=by simp [z0A]
theorem zc6 (f:Nat→Nat→Nat) (n:Nat) (x:Nat→Nat) {k:Nat} (h:k<n):z0A f n x k=f k:=by
  unfold z0A
  rw [if_neg (by omega)]
def ONES (n j:Nat):Prop:=∀ i,i<j→n / 2 ^ i % 2=1
theorem ONES.next {n j:Nat} (h:ONES n j) (hj:n / 2 ^ j % 2=1):ONES n (j+1):=fun i hi=>by
  by_cases e:i=j
  · subst e;exact hj
  · exact h i (by omega)
theorem z1o (n j:Nat):n / 2 ^ (j+1)=n / 2 ^ j / 2:=by rw [Nat.pow_succ,Nat.div_div_eq_div_mul]
theorem ONES.place {n:Nat}:∀ {j:Nat},ONES n j→PLC j (n / 2 ^ j)=z04 n+j
  | 0,_=>by rw [Nat.pow_zero,Nat.div_one,z7j];rfl
  | j+1,h=>by
    have h1:=h j (by omega)
    have ih:=ONES.place (n:=n) (j:=j) fun i hi=>h i (by omega)
    have e:n / 2 ^ j=2*(n / 2 ^ (j+1))+1:=by rw [z1o];omega
    rw [z2P,← e,ih]
    omega
theorem ONES.span {n:Nat}:∀ {j:Nat},ONES n j→(n / 2 ^ j+1)*2 ^ j=n+1
  | 0,_=>by simp
  | j+1,h=>by
    have h1:=h j (by omega)
    have ih:=ONES.span (n:=n) (j:=j) fun i hi=>h i (by omega)
    have e:n / 2 ^ j=2*(n / 2 ^ (j+1))+1:=by rw [z1o];omega
    rw [← ih,e]
    generalize n / 2 ^ (j+1)=q
    rw [Nat.pow_succ,show 2*q+1+1=(q+1)*2 by omega,Nat.mul_assoc,Nat.mul_comm (2 ^ j) 2]
theorem ONES.of_span {n h k:Nat} (e:(k+1)*2 ^ h=n+1):k=n / 2 ^ h∧ONES n h:=by
  have hp:0<2 ^ h:=Nat.two_pow_pos h
  have ek:n=k*2 ^ h+(2 ^ h - 1):=by
    have:(k+1)*2 ^ h=k*2 ^ h+2 ^ h:=by rw [Nat.add_mul,Nat.one_mul]
    omega
  refine ⟨?_,fun i hi=>?_⟩
  · rw [ek,Nat.mul_comm k,Nat.mul_add_div hp,Nat.div_eq_of_lt (by omega),Nat.add_zero]
  · obtain ⟨m,rfl⟩:∃ m,h=i+1+m:=⟨h - (i+1),by omega⟩
    have hpi:0<2 ^ i:=Nat.two_pow_pos i
    have e2:n+1=((k+1)*2 ^ m*2)*2 ^ i:=by
      rw [← e,Nat.pow_add,Nat.pow_succ,Nat.mul_assoc (k+1),Nat.mul_assoc (k+1)]
      congr 1
      rw [Nat.mul_comm (2 ^ i*2),← Nat.mul_assoc,Nat.mul_assoc (2 ^ m),Nat.mul_assoc (2 ^ m),Nat.mul_comm 2 (2 ^ i)]
    obtain ⟨q,hq⟩:∃ q,(k+1)*2 ^ m=q+1:=⟨(k+1)*2 ^ m - 1,by have:0<(k+1)*2 ^ m:=Nat.mul_pos (by omega) (Nat.two_pow_pos m);omega⟩
    rw [hq] at e2
    have e3:n=(2*q+1)*2 ^ i+(2 ^ i - 1):=by
      have:(q+1)*2*2 ^ i=(2*q+1)*2 ^ i+2 ^ i:=by rw [show (q+1)*2=2*q+1+1 by omega,Nat.add_mul,Nat.one_mul]
      omega
    have e4:n / 2 ^ i=2*q+1:=by
      rw [e3,Nat.mul_comm (2*q+1),Nat.mul_add_div hpi,Nat.div_eq_of_lt (by omega),Nat.add_zero]
    omega
theorem zdZ (n:Nat):∃ t,ONES n t∧n / 2 ^ t % 2=0:=by
  suffices h:∀ m j,ONES n j→n≤m+j→∃ t,ONES n t∧n / 2 ^ t % 2=0 from h n 0 (fun i hi=>by omega) (by omega)
  intro m
  induction m with
  | zero=>
    intro j hj hn
    refine ⟨j,hj,?_⟩
    have:n<2 ^ j:=Nat.lt_of_le_of_lt (by omega) (Nat.lt_two_pow_self (n:=j))
    rw [Nat.div_eq_of_lt this]
  | succ m ih=>
    intro j hj hn
    by_cases e:n / 2 ^ j % 2=0
    · exact ⟨j,hj,e⟩
    · exact ih (j+1) (hj.next (by omega)) (by omega)
theorem ONES.nodes {n t:Nat} (h:ONES n t) (ht:n / 2 ^ t % 2=0):z04 (n+1)=z04 n+t+1:=by
  have hp:0<2 ^ t:=Nat.two_pow_pos t
  obtain ⟨q,hq⟩:∃ q,n / 2 ^ t=2*q:=⟨n / 2 ^ t / 2,by omega⟩
  have hs:=h.span
  rw [hq] at hs
  have e1:PC (n+1)=PC q+1:=by rw [← hs,z2i,z3s]
  have e2:n=(2*q)*2 ^ t+(2 ^ t - 1):=by
    have:(2*q+1)*2 ^ t=2*q*2 ^ t+2 ^ t:=by rw [Nat.add_mul,Nat.one_mul]
    omega
  have e3:PC n=PC q+t:=by
    rw [e2,z48 t (2*q) (2 ^ t - 1) (by omega),z4w,z5Z]
  have h1:=z0I n
  have h2:=z0I (n+1)
  omega
theorem ONES.lt {n t:Nat} (h:ONES n t):t≤n:=by
  have h1:=h.span
  have h2:t<2 ^ t:=Nat.lt_two_pow_self
  have h3:1*2 ^ t≤(n / 2 ^ t+1)*2 ^ t:=Nat.mul_le_mul_right _ (Nat.le_add_left 1 _)
  generalize n / 2 ^ t=q at *
  omega
theorem z3i {n h k:Nat} (hk:(k+1)*2 ^ h≤n):PLC h k<z04 n:=by
  have h1:=zd1 h k
  have h2:=z9l h k
  obtain ⟨m,hm⟩:∃ m,(k+1)*2 ^ h=m+1:=⟨(k+1)*2 ^ h - 1,by omega⟩
  rw [hm,Nat.add_sub_cancel] at h1
  have h3:z04 (m+1)≤z04 n:=z55 (by omega)
  have ho:ONES m h:=(ONES.of_span hm).2
  obtain ⟨t,ht1,ht2⟩:∃ t,ONES m t∧m / 2 ^ t % 2=0:=zdZ m
  have h4:=ht1.nodes ht2
  have h5:h≤t:=by
    rcases Nat.lt_or_ge t h with hlt | hge
    · have:=ho t hlt
      omega
    · exact hge
  omega
end Go.Proofs.YtjkjlblongeljaaGreatDoor.HX

namespace Go.Proofs.YtjkjlblongeljaaGreatDoor.HX
open Go.RowKit
theorem z3D (x:Int) (w:World):Calls Tryz.prog 164 #[.int .u64 x] w fun e w'=>e=.returned (.bool false)∧w=w':=by
  go_enter Tryz.func164,Tryz.ntmps164
  go_wp2
  go_ret
  exact ⟨rfl,rfl⟩
def CMP (x y:Nat):Int:=if x<y then -1 else if y<x then 1 else 0
theorem zaQ (x y:Nat) (w:World):Calls Tryz.prog 140 #[.int .u64 (x:Int),.int .u64 (y:Int)] w fun e w'=>e=.returned (.int .i64 (CMP x y))∧w=w':=by
  have c1:=fun w=>z3D (x:Int) w
  have c2:=fun w=>z3D (y:Int) w
  rcases Nat.lt_trichotomy x y with h | h | h
  · have h1:(x:Int)<(y:Int):=by omega
    have e:CMP x y = -1:=by unfold CMP;rw [if_pos h]
    rw [e]
    go_enter Tryz.func140,Tryz.ntmps140
    go_wp2_with fail
    refine (c1 _).mono ?_
    rintro e w' ⟨rfl,rfl⟩
    go_wp2_with fail
    refine (c2 _).mono ?_
    rintro e w' ⟨rfl,rfl⟩
    go_wp2
    go_ret
    exact ⟨rfl,rfl⟩
  · subst h
    have e:CMP x x=0:=by unfold CMP;rw [if_neg (by omega),if_neg (by omega)]
    rw [e]
    go_enter Tryz.func140,Tryz.ntmps140
    go_wp2_with fail
    refine (c1 _).mono ?_
    rintro e w' ⟨rfl,rfl⟩
    go_wp2_with fail
    refine (c1 _).mono ?_
    rintro e w' ⟨rfl,rfl⟩
    go_wp2
    go_ret
    exact ⟨rfl,rfl⟩
  · have h1:¬ (x:Int)<(y:Int):=by omega
    have h2:(y:Int)<(x:Int):=by omega
    have e:CMP x y=1:=by unfold CMP;rw [if_neg (by omega),if_pos h]
    rw [e]
    go_enter Tryz.func140,Tryz.ntmps140
    go_wp2_with fail
    refine (c1 _).mono ?_
    rintro e w' ⟨rfl,rfl⟩
    go_wp2_with fail
    refine (c2 _).mono ?_
    rintro e w' ⟨rfl,rfl⟩
    go_wp2
    go_ret
    exact ⟨rfl,rfl⟩
theorem zc7 (p r:Int) (h:p / 64=r) (w:World):Calls Tryz.prog 131 #[.int .u64 p] w fun e w'=>e=.returned (.int .u64 r)∧w=w':=by
  go_enter Tryz.func131,Tryz.ntmps131
  go_wp2
  go_ret
  exact ⟨rfl,rfl⟩
theorem z7Y (p:Nat) (w:World):Calls Tryz.prog 131 #[.int .u64 (p:Int)] w fun e w'=>e=.returned (.int .u64 ((p / 64:Nat):Int))∧w=w':=zc7 _ _ (by omega) w
theorem zc8 (p k r:Int) (h0:bits .and .u64 p 63=k) (hk:¬ k<0) (h:IntKind.u64.wrap (2 ^ min k.toNat 64)=r) (w:World):Calls Tryz.prog 114 #[.int .u64 p] w fun e w'=>e=.returned (.int .u64 r)∧w=w':=by
  subst h
  go_enter Tryz.func114,Tryz.ntmps114
  go_wp2
  go_ret
  exact ⟨rfl,rfl⟩
theorem z5k (p:Nat) (hp:p<2 ^ 64) (w:World):Calls Tryz.prog 114 #[.int .u64 (p:Int)] w fun e w'=>e=.returned (.int .u64 ((2 ^ (p % 64):Nat):Int))∧w=w':=by
  have hk:p % 64<64:=Nat.mod_lt _ (by decide)
  have e:(p &&& 63:Nat)=p % 64:=Nat.and_two_pow_sub_one_eq_mod p 6
  have h2:2 ^ (p % 64)<2 ^ 64:=Nat.pow_lt_pow_right (by decide) hk
  refine zc8 _ ((p % 64:Nat):Int) _ ((z22 rfl rfl hp (by decide)).trans (by rw [e])) (by omega) ?_ w
  rw [Int.toNat_natCast,Nat.min_eq_left (by omega)]
  exact z0W (by push_cast;rfl) h2
abbrev zaR (log:Nat):Array Value:=#[.int .i64 (log:Int),.int .u64 0,.int .u64 0,.map none,.map none]
theorem z8V (log:Nat) (h:log≤16) (w:World):Calls Tryz.prog 25 #[.int .i64 (log:Int)] w fun e w'=>e=.returned (.tuple #[.pointer (some ⟨w.heap.size,0,none⟩),.int .i64 0])∧w'=w.alloc (.cells (zaR log) 70):=by
  have h1:¬ (log:Int)<0:=by omega
  have h2:¬ (16:Int)<(log:Int):=by omega
  go_enter Tryz.func25,Tryz.ntmps25
  go_wp2
  go_ret2
  exact ⟨rfl,rfl⟩
theorem z6O (x y:Nat) (lv:Int) (a:Option Addr) (n c:Nat) (w:World):Calls Tryz.prog 139 #[.agg #[.int .u64 (x:Int),.int .u64 lv,.slice a n c],.int .u64 (y:Int)] w fun e w'=>e=.returned (.int .i64 (CMP x y))∧Below w.heap.size w w':=by
  have cc:=fun w=>zaQ x y w
  go_enter Tryz.func139,Tryz.ntmps139
  go_wp2_with fail
  refine (cc _).mono ?_
  rintro e w' ⟨rfl,rfl⟩
  go_wp2
  go_ret
  exact ⟨rfl,(Below.refl _ _).alloc (Nat.le_refl _) _⟩
end Go.Proofs.YtjkjlblongeljaaGreatDoor.HX

namespace Go.Proofs.YtjkjlblongeljaaGreatDoor.HX
open Go.RowKit
structure RW where
  num:Nat
  live:Nat
  a:Option Addr
  n:Nat
  c:Nat
def z2M (w:World) (a:Option Addr) (rs:List RW):Prop:=0<rs.length→∃ g o,a=some ⟨g,o,none⟩∧g<w.heap.size∧∀ (j:Nat) (r:RW),rs[j]?=some r→w.cell? ⟨g,o+j*3,none⟩=some (.int .u64 (r.num:Int))∧w.cell? ⟨g,o+j*3+1,none⟩=some (.int .u64 (r.live:Int))∧w.cell? ⟨g,o+j*3+2,none⟩=some (.slice r.a r.n r.c)
def z7f (rs:List RW):Prop:=∀ (i j:Nat) (r s:RW),i<j→rs[i]?=some r→rs[j]?=some s→r.num<s.num
def z5J (rs:List RW) (t i:Nat):Prop:=i≤rs.length∧(∀ (j:Nat) (r:RW),j<i→rs[j]?=some r→r.num<t)∧(∀ (j:Nat) (r:RW),i≤j→rs[j]?=some r→t≤r.num)
theorem z7t {i j:Nat} (h:i<j):∃ m,i≤m∧m<j∧m=(i+j) / 2:=⟨(i+j) / 2,by omega,by omega,rfl⟩
theorem z2S (i j S m:Nat) (hj:j<2 ^ 40) (hi:i<j) (hS:i+j=S) (hm:m=(i+j) / 2):wrap64 ((i:Int)+(j:Int))=(S:Int)∧IntKind.u64.wrap ((i:Int)+(j:Int))=(S:Int)∧(S:Int) / 2=(m:Int)∧wrap64 (m:Int)=(m:Int)∧wrap64 ((m:Int)+1)=((m+1:Nat):Int)∧IntKind.u64.wrap (S:Int)=(S:Int):=by
  rw [z0e,z0e]
  unfold wrap64
  omega
def z3T (rs:List RW) (t:Nat) (w:World) (e:Ending) (w':World):Prop:=∃ (i:Nat) (b:Bool),e=.returned (.tuple #[.int .i64 (i:Int),.bool b])∧z5J rs t i∧(b=true↔∃ r:RW,rs[i]?=some r∧r.num=t)∧Below w.heap.size w w'
set_option maxHeartbeats 1000000 in
theorem z4d (a:Option Addr) (n cap:Nat) (rs:List RW) (t:Nat) (hl:rs.length=n) (hn:n<2 ^ 40) (hR:z7f rs) (w:World) (hL:z2M w a rs):Calls Tryz.prog 138 #[.slice a n cap,.int .u64 (t:Int),.func (.func 139) #[] #[]] w fun e w'=>z3T rs t w e w':=by
  have H:Aside (rs.length=n∧n<2 ^ 40∧z7f rs∧z2M w a rs):=⟨hl,hn,hR,hL⟩
  clear hl hn hR hL
  go_enter Tryz.func138,Tryz.ntmps138
  go_wp2
  go_loopg [9,10] n (fun gg s9 s10 wx=>∃ i j:Nat,s9=.int .i64 (i:Int)∧s10=.int .i64 (j:Int)∧Aside (i+gg=j∧j≤n∧(∀ (k:Nat) (r:RW),k<i→rs[k]?=some r→r.num<t)∧(∀ (k:Nat) (r:RW),j≤k→rs[k]?=some r→t≤r.num)∧Below w.heap.size w wx))
  case atStart=>exact ⟨0,n,rfl,rfl,by omega,Nat.le_refl _,fun k r h=>by omega,fun k r h e=>by have:=(List.getElem?_eq_some_iff.1 e).1;have:=H.out.1;omega,Below.refl _ _⟩
  case round=>
    obtain ⟨i,j,rfl,rfl,I⟩:=hrel
    cases gk with
    | zero=>
      obtain ⟨i1,i2,i3,i4,i5⟩:=I.out
      obtain rfl:i=j:=by omega
      have hlt:¬ (i:Int)<(i:Int):=by omega
      rcases Nat.lt_or_ge i n with hin | hin
      · have hi2:(i:Int)<(n:Int):=by omega
        have hi0:(0:Int)≤(i:Int):=by omega
        obtain ⟨h1,h2,h3,h4⟩:=H.out
        obtain ⟨r,er⟩:∃ r,rs[i]?=some r:=⟨_,List.getElem?_eq_getElem (by omega)⟩
        obtain ⟨g,o,rfl,hg,hc⟩:=h4 (by omega)
        obtain ⟨y0,y1,y2⟩:=hc i r er
        have x0:=(i5.cell (p:=⟨g,o+i*3,none⟩) hg).trans y0
        have x1:=(i5.cell (p:=⟨g,o+i*3+1,none⟩) hg).trans y1
        have x2:=(i5.cell (p:=⟨g,o+i*3+2,none⟩) hg).trans y2
        have cc:=z6O r.num t (r.live:Int) r.a r.n r.c
        have R:Aside (z5J rs t i∧rs[i]?=some r∧Below w.heap.size w wr):=⟨⟨by omega,i3,i4⟩,er,i5⟩
        clear i1 i2 i3 i4 i5 h1 h2 h3 h4 y0 y1 y2 hc er I
        go_wp2_with fail
        refine (cc _).mono ?_
        rintro e w2 ⟨rfl,hb⟩
        have R2:Aside (Below w.heap.size w w2):=R.out.2.2.trans (hb.mono R.out.2.2.size)
        clear hb cc
        generalize hcmp:CMP r.num t=cv at *
        have HC:Aside (CMP r.num t=cv):=hcmp
        clear hcmp
        go_wp2
        go_ret2
        refine ⟨i,_,rfl,R.out.1,?_,R2.out⟩
        have hc:=HC.out
        unfold CMP at hc
        constructor
        · intro h
          refine ⟨r,R.out.2.1,?_⟩
          have h':cv=0:=by simpa using h
          split at hc
          · omega
          · split at hc <;> omega
        · rintro ⟨r',e,rfl⟩
          rw [R.out.2.1] at e
          cases e
          have h':cv=0:=by rw [← hc,if_neg (by omega),if_neg (by omega)]
          simp [h']
      · have hi2:¬ (i:Int)<(n:Int):=by omega
        have R:Aside (z5J rs t i∧rs[i]?=none∧Below w.heap.size w wr):=⟨⟨by have:=H.out.1;omega,i3,i4⟩,List.getElem?_eq_none (by have:=H.out.1;omega),i5⟩
        clear i1 i2 i3 i4 i5 I
        go_wp2
        go_ret2
        refine ⟨i,false,rfl,R.out.1,⟨(fun h=>by cases h),fun ⟨r,e,_⟩=>by rw [R.out.2.1] at e;cases e⟩,R.out.2.2⟩
    | succ gg=>
      obtain ⟨i1,i2,i3,i4,i5⟩:=I.out
      have hij:(i:Int)<(j:Int):=by omega
      obtain ⟨h1,h2,h3,h4⟩:=H.out
      obtain ⟨m,m1,m2,m3⟩:=z7t (i:=i) (j:=j) (by omega)
      obtain ⟨S,hS⟩:∃ S,i+j=S:=⟨_,rfl⟩
      have HW:Aside _:=z2S i j S m (by omega) (by omega) hS m3
      clear hS
      have hm2:(m:Int)<(n:Int):=by omega
      have hm0:(0:Int)≤(m:Int):=by omega
      obtain ⟨r,er⟩:∃ r,rs[m]?=some r:=⟨_,List.getElem?_eq_getElem (by omega)⟩
      obtain ⟨g,o,rfl,hg,hc⟩:=h4 (by omega)
      obtain ⟨y0,y1,y2⟩:=hc m r er
      have x0:=(i5.cell (p:=⟨g,o+m*3,none⟩) hg).trans y0
      have x1:=(i5.cell (p:=⟨g,o+m*3+1,none⟩) hg).trans y1
      have x2:=(i5.cell (p:=⟨g,o+m*3+2,none⟩) hg).trans y2
      have cc:=z6O r.num t (r.live:Int) r.a r.n r.c
      have LO:Aside (r.num<t→∀ (k:Nat) (s:RW),k<m+1→rs[k]?=some s→s.num<t):=fun h k s hk e=>by
        rcases Nat.lt_or_ge k m with hkm | hkm
        · have:=h3 k m s r hkm e er
          omega
        · obtain rfl:k=m:=by omega
          rw [er] at e
          cases e
          exact h
      have HI:Aside (¬ r.num<t→∀ (k:Nat) (s:RW),m≤k→rs[k]?=some s→t≤s.num):=fun h k s hk e=>by
        rcases Nat.lt_or_ge m k with hkm | hkm
        · have:=h3 m k r s hkm er e
          omega
        · obtain rfl:k=m:=by omega
          rw [er] at e
          cases e
          omega
      have R:Aside (i≤m∧m<j∧j≤n∧i+(gg+1)=j∧(∀ (k:Nat) (r:RW),k<i→rs[k]?=some r→r.num<t)∧(∀ (k:Nat) (r:RW),j≤k→rs[k]?=some r→t≤r.num)∧Below w.heap.size w wr):=⟨m1,m2,i2,i1,i3,i4,i5⟩
      clear i1 i2 i3 i4 i5 h1 h2 h3 h4 y0 y1 y2 hc er I m1 m2 m3
      obtain ⟨q1,q2,q3,q4,q5,q6⟩:=HW.out
      go_wp2_with fail
      refine (cc _).mono ?_
      rintro e w2 ⟨rfl,hb⟩
      have R2:Aside (Below w.heap.size w w2):=R.out.2.2.2.2.2.2.trans (hb.mono R.out.2.2.2.2.2.2.size)
      clear hb cc x0 x1 x2
      by_cases hlt:r.num<t
      · have e:CMP r.num t = -1:=by unfold CMP;rw [if_pos hlt]
        rw [e]
        have L:=LO.out hlt
        have LL:Aside (∀ (k:Nat) (s:RW),k<m+1→rs[k]?=some s→s.num<t):=L
        clear L hlt e
        go_wp2
        go_roundg (j - (m+1))
        case measure=>have:=R.out;clear q1 q2 q3 q4 q5 q6;omega
        case rel=>exact ⟨m+1,j,by first | rfl | (rw [q5]),rfl,by have:=R.out;clear q1 q2 q3 q4 q5 q6;omega,R.out.2.2.1,LL.out,R.out.2.2.2.2.2.1,R2.out⟩
      · have e:¬ CMP r.num t<0:=by unfold CMP;rw [if_neg hlt];split <;> omega
        have L:=HI.out hlt
        have LL:Aside (∀ (k:Nat) (s:RW),m≤k→rs[k]?=some s→t≤s.num):=L
        generalize CMP r.num t=cv at *
        clear L hlt
        go_wp2
        go_roundg (m - i)
        case measure=>have:=R.out;clear q1 q2 q3 q4 q5 q6;omega
        case rel=>exact ⟨i,m,rfl,by first | rfl | (rw [q4]),by have:=R.out;clear q1 q2 q3 q4 q5 q6;omega,by have:=R.out;clear q1 q2 q3 q4 q5 q6;omega,R.out.2.2.2.2.1,LL.out,R2.out⟩
end Go.Proofs.YtjkjlblongeljaaGreatDoor.HX

namespace Go.Proofs.YtjkjlblongeljaaGreatDoor.HX
open Go.RowKit
theorem z8W (g:Nat) (p log r:Int) (hl:¬ log<0) (w:World) (h:w.cell? ⟨g,0,none⟩=some (.int .i64 log)) (e:p / 2 ^ min log.toNat 64=r):Calls Tryz.prog 71 #[.pointer (some ⟨g,0,none⟩),.int .u64 p] w fun e w'=>e=.returned (.agg #[.int .u64 r])∧Below w.heap.size w w':=by
  have hg:=World.block_lt_of_cell? w _ h
  have h2:(w.alloc (.cells #[.int .u64 0] 123)).cell? ⟨g,0,none⟩=some (.int .i64 log):=(Below.cell (B:=w.heap.size) ((Below.refl _ _).alloc (Nat.le_refl _) _) hg).trans h
  go_enter Tryz.func71,Tryz.ntmps71
  go_wp2
  refine bodyPost_ret (v:=.agg #[.int .u64 r]) ?_ rfl ⟨rfl,(Below.refl _ _).alloc (Nat.le_refl _) _⟩
  simp [results,Tryz.f71,go_sem]
theorem ze0 (g o:Nat) (lv bit k x:Int) (r:Nat) (w:World) (h:w.cell? ⟨g,o+1,none⟩=some (.int .u64 lv)) (e1:IntKind.u64.wrap (bit - 1)=k) (e2:bits .and .u64 lv k=x) (c:∀ w,Calls Tryz.prog 93 #[.int .u64 x] w fun e w'=>e=.returned (.int .i64 (r:Int))∧w=w'):Calls Tryz.prog 113 #[.pointer (some ⟨g,o,none⟩),.int .u64 bit] w fun e w'=>e=.returned (.int .i64 (r:Int))∧w=w':=by
  go_enter Tryz.func113,Tryz.ntmps113
  go_wp2_with fail
  refine (c _).mono ?_
  rintro e w' ⟨rfl,rfl⟩
  go_wp2
  go_ret
  exact ⟨rfl,rfl⟩
theorem z6g (g o lv k:Nat) (hlv:lv<2 ^ 64) (hk:k<64) (w:World) (h:w.cell? ⟨g,o+1,none⟩=some (.int .u64 (lv:Int))):Calls Tryz.prog 113 #[.pointer (some ⟨g,o,none⟩),.int .u64 ((2 ^ k:Nat):Int)] w fun e w'=>e=.returned (.int .i64 ((POP (lv % 2 ^ k):Nat):Int))∧w=w':=by
  have hp:=Nat.two_pow_pos k
  have h2:2 ^ k<2 ^ 64:=Nat.pow_lt_pow_right (by decide) hk
  have e1:IntKind.u64.wrap (((2 ^ k:Nat):Int) - 1)=((2 ^ k - 1:Nat):Int):=z0W (by omega) (by omega)
  have e2:bits .and .u64 (lv:Int) ((2 ^ k - 1:Nat):Int)=((lv % 2 ^ k:Nat):Int):=by
    rw [z22 rfl rfl hlv (by omega),Nat.and_two_pow_sub_one_eq_mod]
  exact ze0 g o lv _ _ _ _ w h e1 e2 (fun w=>z1z _ (Nat.lt_of_le_of_lt (Nat.mod_le _ _) hlv) w)
theorem z9N (g:Nat) (a:Option Addr) (n cap:Nat) (rs:List RW) (p:Nat) (hl:rs.length=n) (hn:n<2 ^ 40) (hR:z7f rs) (w:World) (hL:z2M w a rs) (hc:w.cell? ⟨g,0,none⟩=some (.slice a n cap)):Calls Tryz.prog 112 #[.pointer (some ⟨g,0,none⟩),.int .u64 (p:Int)] w fun e w'=>z3T rs (p / 64) w e w':=by
  have cs:Calls Tryz.prog 138 #[.slice a n cap,.int .u64 ((p / 64:Nat):Int),.func (.func 139) #[] #[]] w.drew fun e w'=>z3T rs (p / 64) w e w':=(z4d a n cap rs (p / 64) hl hn hR w.drew hL).mono fun e w' ⟨i,b,h1,h2,h3,h4⟩=>⟨i,b,h1,h2,h3,(Below.refl w.heap.size w).drew.trans h4⟩
  have cr:=fun w=>z7Y p w
  clear hL hR hn
  go_enter Tryz.func112,Tryz.ntmps112
  go_wp2_with fail
  go_region_held3 (fun W:World=>W.cell? ⟨g,0,none⟩=some (.slice a n cap)) (first | assumption | go_keep) (first
    | (go_at_call 131;refine (cr _).mono ?_;rintro e w2 ⟨rfl,rfl⟩)
    | (go_at_call 138;refine cs.mono ?_;rintro e w3 ⟨i,b,rfl,s1,s2,s3⟩;have S:Aside (z5J rs (p / 64) i∧(b=true↔∃ r:RW,rs[i]?=some r∧r.num=p / 64)∧Below w.heap.size w w3):=⟨s1,s2,s3⟩;have hc3:w3.cell? ⟨g,0,none⟩=some (.slice a n cap):=(s3.cell (World.block_lt_of_cell? w _ hc)).trans hc;clear s1 s2 s3))
  go_wp2
  go_ret2
  exact ⟨i,b,rfl,S.out⟩
end Go.Proofs.YtjkjlblongeljaaGreatDoor.HX

namespace Go.Proofs.YtjkjlblongeljaaGreatDoor.HX
open Go.RowKit Go.Maps
set_option maxRecDepth 100000
theorem z5f:laidOutB Tryz.prog=true:=by kernel_rfl
theorem zc9:(123:TypeId)<Tryz.prog.types.size:=of_decide_eq_true (by kernel_rfl)
theorem zf3:(match Tryz.prog.underlying 123 with | some (.array _ _) | some (.struct _)=>true | _=>false)=true:=by rw [Tryz.underlying123]
theorem lawKey:Keyed Tryz.prog 123:=Keyed.of_law (deep_law_laid z5f (m:=2) (by omega) zc9 (by kernel_rfl) zf3)
abbrev KEY (k:Nat):Value:=.agg #[.int .u64 (k:Int)]
def KK (k:Nat):Lit:=.string (keyBytes [.int .u64 (k:Int)])
theorem z27 {k:Nat} (hk:k<2 ^ 64):keyOf Tryz.prog 123 (KEY k)=some (KK k):=by
  have w1:(Lit.int .u64 (k:Int)).wf=true:=WalkArith.wf_u64 (by omega)
  have c3:Tryz.prog.cellsOf 123=1:=by kernel_rfl
  have c2:Tryz.prog.cellsOf 24=1:=by kernel_rfl
  have ht:Tryz.prog.keyType 123=true:=by kernel_rfl
  have hf:(KEY k).formed Tryz.prog 123=true:=by simp [Value.formed,Tryz.underlying123,c3]
  obtain ⟨m,hm⟩:∃ m,Tryz.prog.types.size=m+1:=⟨Tryz.prog.types.size - 1,(Nat.succ_pred_eq_of_pos (Nat.lt_of_le_of_lt (Nat.zero_le _) zc9)).symm⟩
  unfold keyOf
  simp only [Tryz.underlying123,ht,hf,hm]
  simp [Program.keyLits,Tryz.underlying123,Tryz.underlying24,c2,c3,Value.cells,w1,KK]
theorem zca {k k':Nat} (hk:k<2 ^ 64) (hk':k'<2 ^ 64) (e:KK k=KK k'):k=k':=by
  have h1:=z27 hk
  have h2:=z27 hk'
  rw [← e] at h2
  have:=lawKey.inj h1 h2
  simp at this
  omega
abbrev UD (n:Nat):DataW Unit:=.lit (.int .u64 (n:Int))
def PE:Value→Option (DataW Unit × List MemPlace)
  | .pointer none=>some (UD 0,[])
  | .pointer (some ⟨g,0,none⟩)=>some (UD (g+1),[])
  | _=>none
theorem zf4 {g:Nat}:PE (.pointer (some ⟨g,0,none⟩))=some (UD (g+1),[]):=rfl
theorem zcb {v:Value} {g:Nat} {ps:List MemPlace} (h:PE v=some (UD (g+1),ps)):v=.pointer (some ⟨g,0,none⟩):=by
  unfold PE at h
  split at h
  · simp at h
    omega
  · simp at h
    obtain ⟨h, -⟩:=h
    rw [Int.ofNat.inj h]
  · cases h
theorem zf5 {v:Value} {ps:List MemPlace} (h:PE v=some (UD 0,ps)):v=.pointer none:=by
  unfold PE at h
  split at h
  · rfl
  · simp at h
    omega
  · cases h
def ChunkMap (w:World) (b n:Nat) (M:Nat→Option Nat):Prop:=∃ D:DataW Unit,w.ownsMap Tryz.prog 123 PE b n D∧∀ k,k<2 ^ 64→(Maps.has D (KK k)=(M k).isSome)∧∀ g,M k=some g→D.atKey (KK k) (UD 0)=UD (g+1)
theorem ChunkMap.made (w:World):ChunkMap (w.alloc (.map #[] 0)) w.heap.size 0 (fun _=>none):=⟨_,World.ownsMap_made w _ _ _,fun k _=>⟨by simp [Maps.has],fun g h=>by cases h⟩⟩
theorem ChunkMap.lt {w:World} {b n:Nat} {M:Nat→Option Nat} (h:ChunkMap w b n M):b<w.heap.size:=let ⟨_,h1,_⟩:=h;h1.lt
theorem ChunkMap.kept {w w':World} {b n:Nat} {M:Nat→Option Nat} {row:Option Nat} (h:ChunkMap w b n M) (hg:w.grownBy w' row) (hne:some b≠row):ChunkMap w' b n M:=let ⟨D,h1,h2⟩:=h; ⟨D,h1.kept hg hne,h2⟩
theorem ChunkMap.at {w w':World} {b n:Nat} {M:Nat→Option Nat} (h:ChunkMap w b n M) (hb:w'.heap[b]?=w.heap[b]?):ChunkMap w' b n M:=by
  obtain ⟨D,⟨es,clock,h1,r⟩,h2⟩:=h
  exact ⟨D,⟨es,clock,hb.trans h1,r⟩,h2⟩
theorem ChunkMap.below {w w':World} {b n:Nat} {M:Nat→Option Nat} (h:ChunkMap w b n M) (hb:Below w.heap.size w w'):ChunkMap w' b n M:=h.at (hb.block b h.lt)
theorem ChunkMap.setCell {w:World} {b n:Nat} {M:Nat→Option Nat} (h:ChunkMap w b n M) {a:Addr} (ha:b≠a.block) (u:Value):ChunkMap (w.setCell a u) b n M:=let ⟨D,h1,h2⟩:=h; ⟨D,h1.setCell ha u,h2⟩
theorem z9O (w:World):(zeroValue 125).run Tryz.prog w=.ok (.pointer none) w:=by kernel_rfl
theorem ChunkMap.look {w:World} {b n k:Nat} {M:Nat→Option Nat} (h:ChunkMap w b n M) (hk:k<2 ^ 64):∃ v,(Instr.lookup 67 (.map (some b)) (KEY k) true).run Tryz.prog w=.ok (.tuple #[v,.bool (M k).isSome]) w∧(∀ g,M k=some g→v=.pointer (some ⟨g,0,none⟩))∧(M k=none→v=.pointer none):=by
  obtain ⟨D,h1,h2⟩:=h
  obtain ⟨v,ps,r1,r2⟩:=h1.look_ok lawKey Tryz.underlying67 (z9O w) (show PE (.pointer none)=some (UD 0,[]) from rfl) (z27 hk)
  refine ⟨v,by rw [r1,(h2 k hk).1],fun g hg=>?_,fun hg=>?_⟩
  · rw [(h2 k hk).2 g hg] at r2
    exact zcb r2
  · have hn:Maps.has D (KK k)=false:=by rw [(h2 k hk).1,hg];rfl
    rw [Maps.atKey_of_not_has hn] at r2
    exact zf5 r2
theorem ChunkMap.get {w:World} {b n k g:Nat} {M:Nat→Option Nat} (h:ChunkMap w b n M) (hk:k<2 ^ 64) (hg:M k=some g):(Instr.lookup 67 (.map (some b)) (KEY k) false).run Tryz.prog w=.ok (.pointer (some ⟨g,0,none⟩)) w:=by
  obtain ⟨D,h1,h2⟩:=h
  obtain ⟨v,ps,r1,r2⟩:=h1.lookup lawKey Tryz.underlying67 (z9O w) (show PE (.pointer none)=some (UD 0,[]) from rfl) (z27 hk)
  rw [(h2 k hk).2 g hg] at r2
  rw [r1,zcb r2]
theorem ChunkMap.store {w:World} {b n k g:Nat} {M:Nat→Option Nat} (h:ChunkMap w b n M) (hn:n<2 ^ 40) (hk:k<2 ^ 64):∃ w',(Instr.mapUpdate 67 (.map (some b)) (KEY k) (.pointer (some ⟨g,0,none⟩))).run Tryz.prog w=.ok () w'∧ChunkMap w' b (n+1) (fun j=>if j=k then some g else M j)∧w.grownBy w' (some b):=by
  obtain ⟨D,h1,h2⟩:=h
  obtain ⟨w',r1,r2,r3⟩:=h1.update lawKey Tryz.underlying67 (by unfold maxLen;omega) (z27 hk) (zf4 (g:=g))
  refine ⟨w',r1,⟨_,r2,fun j hj=>?_⟩,r3⟩
  dsimp only
  have hkey:WideAt.IsKeyLit (KK k):=lawKey.key (z27 hk)
  by_cases e:j=k
  · subst e
    rw [if_pos rfl]
    exact ⟨by rw [Maps.has_put_same h1.isMap hkey];rfl,fun g' hg'=>by cases hg';rw [Maps.atKey_put_same h1.isMap hkey]⟩
  · rw [if_neg e,Maps.has_put_other (fun h=>e (zca hj hk h)),Maps.atKey_put_other (fun h=>e (zca hj hk h))]
    exact h2 j hj
end Go.Proofs.YtjkjlblongeljaaGreatDoor.HX
