/- Texts of ClashBlocks, one behind the other: ClashBackward, ClashBagRegions, VerifyReachRegion, CutJoins, VerifyReach. -/
import Derived.RangeFuncBox
import Derived.RangeFuncLeaves
import Derived.RangeFuncCalls
import Derived.RangeFuncNested
import Derived.Shelf.Abstract
import Derived.Shelf.RegionOpen
import Derived.WalkKit
import Derived.OwnWalkIn
import Derived.TacticsInMore
import Derived.LoopNIn
import Derived.LoopIn
import Derived.Maps.AppendAt
import Derived.Test.YtbmjoiiagldklaaDoorClashBlocksP3
import Derived.Test.YtbmjoiiagldklaaDoorClashBlocksP5
import Derived.Test.YtbmjoiiagldklaaDoorClashBlocksP6
import Derived.Test.YtbmjoiiagldklaaDoorClashBlocksP13
import Derived.Test.YtbmjoiiagldklaaDoorClashBlocksP14
namespace Go.Proofs.YtbmjoiiagldklaaDoor
open Go.RowKit Go.Shelf
set_option maxRecDepth 100000
attribute [local go_sem] Oper.semAt_some
def BCK (m:Nat) (hm:0<m) (j:Nat):Fin m:=⟨m - 1 - j,by omega⟩
def z8C (l:List Int) (x:Nat):Array Value:=#[.int .i64 (x:Int),.agg (z00 (HSH l x)).toArray]
theorem z0u {s:Sem Value} {w w':World} {v:Value} (h:s.run Tryd.prog w=.ok v w'):(do pure (Next.value (← s)):Sem Next).run Tryd.prog w=.ok (.value v) w':=by
  simp [h]
theorem z39 {s:Sem Unit} {w w':World} (h:s.run Tryd.prog w=.ok () w'):(do s;pure Next.skip:Sem Next).run Tryd.prog w=.ok .skip w':=by
  simp [h]
theorem z2D {F:Fence} {n:Nat} {ops:Array Oper} {rest:List Oper} {o:Oper} {a:Act} {w:World} {Q:Exit→Act→World→Prop} (hg:o.guard=none) (ty:TypeId) (x:Operand) (ho:o.op=.load ty x) (b k:Nat) (hx:a.eval x=.pointer (some ⟨b,k,none⟩)) (h:List Int) (d:TypeDesc)
    (hc:w.rangeAt b k (z00 h)) (hu:Tryd.prog.underlying ty=some d) (hd:d.isRow=true) (hi:(Tryd.prog.info? ty).map (·.size)=some (z00 h).length) (hh:wpListIn F n Tryd.prog ops Q rest (a.put o.dst (.agg (z00 h).toArray)) w):wpListIn F n Tryd.prog ops Q (o :: rest) a w:=by
  refine wpListIn_plain hg fun K hK=>⟨fun f hf=>(by simp [Oper.about,ho] at hf),?_⟩
  rw [Oper.semAt_eq _ _ _ (by rw [ho];intro c h;cases h)]
  have e:(execOp a.eval o).run Tryd.prog w=.ok (.value (.agg (z00 h).toArray)) w:=by
    unfold execOp
    rw [ho]
    simp only [hx]
    exact z0u (run_loadAt_mid (P:=Tryd.prog) w b k ty _ d hc hu hd hi)
  rw [e]
  exact hK _ _ hh
set_option maxHeartbeats 2000000 in
theorem z8z (F:Fence) (n:Nat) (hF:F.fn 77) (hro:F.round=none) (hn:1≤n) (y Bs b o len cap:Nat) (l:List Int) (hl:l.length=32*len) (hlen:0<len) (hreach:len≤1000) (J Jx:List (Fin len)→World→Prop) (KB2:World→World→Prop) (hrefl:∀ W,KB2 W W) (htr:∀ {A B C:World},KB2 A B→KB2 B C→KB2 A C) (W:World)
    (hkb:∀ A,KB2 W A→A.cell? ⟨Bs,0,none⟩=some (.slice (some ⟨b,o,none⟩) len cap)∧∀ j,j<len→A.rangeAt b (o+j*32) (z00 (HSH l j)))
    (hY:∀ pre x W,J pre W→pre.length<len→YieldAt F (n - 1) Tryd.prog y (z8C l x.val) W fun e W'=>
      (e=.returned (.bool true)∧J (pre ++ [x]) W'∧KB2 W W')∨(e=.returned (.bool false)∧Jx (pre ++ [x]) W'))
    (h0:J [] W):
    CallsIn F n Tryd.prog 77 #[.func (.yield y) #[] #[],.pointer (some ⟨Bs,0,none⟩)] W fun e W'=>(∃ v,e=.returned v)∧
      ((∃ ys,ys=UPTO (BCK len hlen) len∧J ys W')∨(∃ pre,(∃ k,k≤len∧pre=UPTO (BCK len hlen) k)∧Jx pre W')):=by
  refine callsIn_of_wp Tryd.func77 rfl hF ?_ hro
  simp only [Tryd.ntmps77,List.size_toArray,List.length_cons,List.length_nil,Nat.reduceAdd,Nat.reduceSub,Array.replicate_succ,Array.replicate_zero,List.push_toArray,List.append_toArray,List.nil_append,List.cons_append]
  have e1:wrap64 ((len:Int) - 1)=(len:Int) - 1:=by unfold wrap64;omega
  have hc0:=(hkb W (hrefl W)).1
  gi_wp2
  clear hc0
  gi_loopw [3] (fun i wr=>∃ k:Nat,k≤len∧i=.int .i64 ((len:Int) - 1 - (k:Int))∧J (UPTO (BCK len hlen) k) wr∧KB2 W wr)
    (fun i _=>(intOf i+1).toNat)
  case atStart=>exact ⟨0,Nat.zero_le _,by simp,h0,hrefl W⟩
  case round=>
    obtain ⟨k,hk,rfl,hJs,hnx⟩:=hrel
    by_cases hlt:k<len
    · obtain ⟨j,hj⟩:∃ j:Nat,(len:Int) - 1 - (k:Int)=(j:Int):=⟨len - 1 - k,by omega⟩
      have hjl:j<len:=by omega
      have hbk:(BCK len hlen k).val=j:=by
        unfold BCK
        dsimp only
        omega
      obtain ⟨hcs,hcx⟩:=hkb wr hnx
      have hcx:=hcx j hjl
      have hl32:=z13 hl hjl
      obtain ⟨fn,tmps,assign,body,hy,hR⟩:=hY _ (BCK len hlen k) wr hJs (by rw [z1w];exact hlt)
      rw [hbk] at hy
      unfold z8C at hy
      generalize HSH l j=L at *
      rw [hj]
      have e2:wrap64 ((j:Int) - 1)=(j:Int) - 1:=by unfold wrap64;omega
      have hJ':Aside ((len:Int) - 1 - (k:Int)=(j:Int)):=hj
      have hjl':(j:Int)<(len:Int):=by omega
      have HK:Aside (k+1≤len):=hlt
      clear hj hlt hk hl hkb hY
      gi_wp2_with (first | (refine z2D rfl 26 (.tmp 15) rfl b (o+j*32) rfl L _ hcx Tryd.underlying26 rfl (z0a hl32) ?_) | fail)
      refine hR.mono ?_
      rintro e W3 (⟨rfl,hJ3,hk3⟩ | ⟨rfl,hJx3⟩)
      · gi_wp2
        go_roundw
        case rel=>exact ⟨k+1,HK.out,by have:=hJ'.out;congr 1;omega,by rw [z14];exact hJ3,htr hnx hk3⟩
        case measure=>simp [intOf]
      · gi_wp2
        refine bodyPost_ret (results_none rfl _ _ _) rfl ?_
        exact ⟨⟨_,rfl⟩,.inr ⟨_,⟨k+1,HK.out,by rw [z14]⟩,hJx3⟩⟩
    · obtain rfl:k=len:=by omega
      rw [show (k:Int) - 1 - (k:Int) = -1 by omega]
      clear hY hkb
      gi_wp2
      go_end0
      exact ⟨⟨_,rfl⟩,.inl ⟨_,rfl,hJs⟩⟩
set_option maxHeartbeats 1000000 in
theorem z9r (F:Fence) (n:Nat) (hF:F.fn 48) (hro:F.round=none) (a:Option Addr) (len cap:Nat) (w:World):
    CallsIn F n Tryd.prog 48 #[.slice a len cap] w fun e w'=>e=.returned (.func (.func 77) #[] #[.pointer (some ⟨w.heap.size,0,none⟩)])∧w'=w.alloc (.cells #[.slice a len cap] 23):=by
  refine callsIn_of_wp Tryd.func48 rfl hF ?_ hro
  simp only [Tryd.ntmps48,List.size_toArray,List.length_cons,List.length_nil,Nat.reduceAdd,Nat.reduceSub,Array.replicate_succ,Array.replicate_zero,List.push_toArray,List.append_toArray,List.nil_append,List.cons_append]
  gi_wp2
  go_ret
  exact ⟨rfl,rfl⟩
def KBH (Bs b:Nat) (A B:World):Prop:=B.heap[Bs]?=A.heap[Bs]?∧B.heap[b]?=A.heap[b]?
theorem KBH.t {Bs b:Nat} {A B C:World} (h:KBH Bs b A B) (k:KBH Bs b B C):KBH Bs b A C:=⟨k.1.trans h.1,k.2.trans h.2⟩
theorem KBH.b {Bs b:Nat} {w:World} (hB:Bs<w.heap.size) (hb:b<w.heap.size) (W:World) (l:Nat) (o o':Obj) (hl:w.heap.size≤l) (h:W.heap[l]?=some o) (h1:o.isCells=false) (h2:o.isWalk=false):KBH Bs b W (W.putObj l o'):=
  ⟨(belowK_b (Nat.le_refl w.heap.size) W l o o' hl h h1 h2).block Bs hB,(belowK_b (Nat.le_refl w.heap.size) W l o o' hl h h1 h2).block b hb⟩
theorem z6W (F:Fence) (n:Nat) (hF:F.fn 77) (hro:F.round=none) (hn:1≤n) (Bs b o len cap:Nat) (l:List Int) (hlen:0<len) (hreach:len≤1000) (w:World) (hBs:Bs<w.heap.size) (hl:Flat w (some ⟨b,o,none⟩) len l) (hb:b<w.heap.size)
    (hc:w.cell? ⟨Bs,0,none⟩=some (.slice (some ⟨b,o,none⟩) len cap)):
    SeqStopsK F n Tryd.prog 77 #[.pointer (some ⟨Bs,0,none⟩)] (fun x:Fin len=>z8C l x.val) (KBH Bs b) (fun ys=>ys=UPTO (BCK len hlen) len)
      (fun pre=>∃ k,k≤len∧pre=UPTO (BCK len hlen) k) len w:=fun y J Jx W hW _ _ hY h0=>
  z8z F n hF hro hn y Bs b o len cap l hl.1 hlen hreach J Jx (KBH Bs b) (fun _=>⟨rfl,rfl⟩) KBH.t W (fun A hA=>by
    have e1:A.heap[Bs]?=w.heap[Bs]?:=hA.1.trans (hW.block Bs hBs)
    have e2:A.heap[b]?=w.heap[b]?:=hA.2.trans (hW.block b hb)
    refine ⟨(World.cell?_of_block (w:=w) (by exact e1)).trans hc,fun j hj i v hv=>?_⟩
    rw [← hl.at hj i v hv]
    exact World.cell?_of_block (w:=w) (by exact e2)) hY h0
end Go.Proofs.YtbmjoiiagldklaaDoor

namespace Go.Proofs.YtbmjoiiagldklaaDoor
open Go.RowKit Go.Shelf
set_option maxRecDepth 100000
theorem z0g {F:Fence} {n:Nat} {ops:Array Oper} {o:Oper} {a:Act} {w w':World} {K:Act→World→Prop} {Q:Exit→Act→World→Prop} {E:Prop} {v:Value} (hg:o.guard=none) (hd:∀ c,o.op≠.defer c) (hab:o.about Tryd.prog w a.eval=none)
    (hrun:(execOp a.eval o).run Tryd.prog w=.ok (.value v) w') (h:K (a.put o.dst v) w'):if Region.wanted o (yielded ops a.tmps)=true then Oper.wpIn F n Tryd.prog o a w K Q else E:=by
  have hw:Region.wanted o (yielded ops a.tmps)=true:=by simp [Region.wanted,hg]
  rw [if_pos hw]
  refine ⟨fun f hf=>(by rw [hab] at hf;cases hf),?_⟩
  rw [Oper.semAt_eq _ _ _ hd,hrun]
  exact h
theorem z8A {F:Fence} {n:Nat} {ops:Array Oper} {o:Oper} {a:Act} {w w':World} {K:Act→World→Prop} {Q:Exit→Act→World→Prop} {E:Prop} (hg:o.guard=none) (hd:∀ c,o.op≠.defer c) (hab:o.about Tryd.prog w a.eval=none)
    (hrun:(execOp a.eval o).run Tryd.prog w=.ok .skip w') (h:K (a.put o.dst undef) w'):if Region.wanted o (yielded ops a.tmps)=true then Oper.wpIn F n Tryd.prog o a w K Q else E:=by
  have hw:Region.wanted o (yielded ops a.tmps)=true:=by simp [Region.wanted,hg]
  rw [if_pos hw]
  refine ⟨fun f hf=>(by rw [hab] at hf;cases hf),?_⟩
  rw [Oper.semAt_eq _ _ _ hd,hrun]
  exact h
theorem z1d {F:Fence} {n:Nat} {ops:Array Oper} {o:Oper} {a:Act} {w:World} {K:Act→World→Prop} {Q:Exit→Act→World→Prop} {E:Prop} (hg:o.guard=none) (hd:∀ c,o.op≠.defer c) (hF:∀ f,F.fn f) (hn:F.depth.isSome=true→1≤n) {f:FuncId} {args:Array Value}
    (hrun:(execOp a.eval o).run Tryd.prog w=.ok (.enter f args) w) (h:CallsIn F (n - 1) Tryd.prog f args w fun e w'=>∃ v,e=.returned v∧K (a.put o.dst v) w'):if Region.wanted o (yielded ops a.tmps)=true then Oper.wpIn F n Tryd.prog o a w K Q else E:=by
  have hw:Region.wanted o (yielded ops a.tmps)=true:=by simp [Region.wanted,hg]
  rw [if_pos hw]
  refine ⟨fun f _=>hF f,?_⟩
  rw [Oper.semAt_eq _ _ _ hd,hrun]
  refine ⟨hn,h.mono ?_⟩
  rintro e w' ⟨v,rfl,hk⟩
  exact hk
theorem z2x {w:World} {g:Nat} {A X:List Int} (h:Has w g (z00 A).toArray 26) (lA:A.length=32) (lX:X.length=32):(Instr.storeAt 26 (.pointer (some ⟨g,0,none⟩)) (.agg (z00 X).toArray)).run Tryd.prog w=.ok () (w.setRow g (z00 X).toArray):=by
  simp only [Instr.storeAt,Instr.sureAddr,Sem.run_bind,Sem.run_pure,Result.andThen]
  exact run_storeVar_row w g 26 26 (z00 A).toArray (z00 X).toArray h (z08 lX) (by simp [z00,lA,lX]) (z0G X)
def z1t:Array Oper:=#[⟨some 24,.load 54 (.tmp 3),54,"met.go:50",#[],none⟩,⟨some 25,.move (.tmp 1),22,"met.go:50",#[],none⟩,⟨some 26,.load 26 (.tmp 6),26,"met.go:50",#[],none⟩,⟨some 27,.call {callee:=.value (.func 51),args:=#[.tmp 25,.tmp 26],argTypes:=#[22,26]},30,"met.go:50",#[⟨1,.data⟩,⟨2,.data⟩],none⟩,⟨some 28,.call {callee:=.value (.func 49),args:=#[.tmp 24,.tmp 27],argTypes:=#[54,30]},26,"met.go:50",#[⟨0,.data⟩,⟨3,.data⟩,⟨3,.chain⟩],none⟩]
set_option maxHeartbeats 1000000 in
theorem bag8 {F:Fence} {n:Nat} (hF:∀ f,F.fn f) (hn:F.depth.isSome=true→1≤n) {Q:Exit→Act→World→Prop} {u0 u2 u4 u5 u7 u8 u9 u10 u11 u12 u13 u14 u15 u16 u17 u18 u19 u20 u21 u22 u23 u24 u25 u26 u27 u28:Value} {df:List Deferred} (W:World) (b3 b6 b N:Nat) (A X:List Int) (lA:A.length=32) (c3:W.cell? ⟨b3,0,none⟩=some (.pointer (some ⟨b,0,none⟩))) (r6:W.rangeAt b6 0 (z00 A)) (P1:Nat→Nat→World→Prop) (P2:World→Prop) (k1:∀ gt c w,P1 gt c w→w.cell? ⟨b3,0,none⟩=some (.pointer (some ⟨b,0,none⟩)))
    (cF:CallsIn F (n - 1) Tryd.prog 51 #[.int .u64 (N:Int),.agg (z00 A).toArray] W.drew fun e w'=>∃ (gt:Nat) (c:Nat),e=.returned (.slice (some ⟨gt,0,none⟩) 41 c)∧P1 gt c w')
    (cT:∀ gt c w,P1 gt c w→CallsIn F (n - 1) Tryd.prog 49 #[.pointer (some ⟨b,0,none⟩),.slice (some ⟨gt,0,none⟩) 41 c] w fun e w'=>e=.returned (.agg (z00 X).toArray)∧P2 w')
    (h:∀ (gt c:Nat) w,P2 w→Q .normal {tmps:=#[u0,.int .u64 (N:Int),u2,.pointer (some ⟨b3,0,none⟩),u4,u5,.pointer (some ⟨b6,0,none⟩),u7,u8,u9,u10,u11,u12,u13,u14,u15,u16,u17,u18,u19,u20,u21,u22,u23,.pointer (some ⟨b,0,none⟩),.int .u64 (N:Int),.agg (z00 A).toArray,.slice (some ⟨gt,0,none⟩) 41 c,.agg (z00 X).toArray],defers:=df} w):
    (Code.region 8 z1t true).wpIn F n Tryd.prog Q {tmps:=#[u0,.int .u64 (N:Int),u2,.pointer (some ⟨b3,0,none⟩),u4,u5,.pointer (some ⟨b6,0,none⟩),u7,u8,u9,u10,u11,u12,u13,u14,u15,u16,u17,u18,u19,u20,u21,u22,u23,u24,u25,u26,u27,u28],defers:=df} W:=by
  have d6:W.drew.rangeAt b6 0 (z00 A):=(World.rangeAt_drew _ _ _ _).2 r6
  have d3:W.drew.cell? ⟨b3,0,none⟩=some (.pointer (some ⟨b,0,none⟩)):=c3
  have h11111:∀ (gt c:Nat) (w:World),P2 w→wpAnyIn F n Tryd.prog .any z1t Q 0 #[true,true,true,true,true] {tmps:=#[u0,.int .u64 (N:Int),u2,.pointer (some ⟨b3,0,none⟩),u4,u5,.pointer (some ⟨b6,0,none⟩),u7,u8,u9,u10,u11,u12,u13,u14,u15,u16,u17,u18,u19,u20,u21,u22,u23,.pointer (some ⟨b,0,none⟩),.int .u64 (N:Int),.agg (z00 A).toArray,.slice (some ⟨gt,0,none⟩) 41 c,.agg (z00 X).toArray],defers:=df} w:=fun gt c w hp=>by
    exact wpAnyIn_done (by kernel_rfl) (h gt c w hp) _
  have h11110:∀ (gt c:Nat) (w:World),P1 gt c w→wpAnyIn F n Tryd.prog .any z1t Q 1 #[true,true,true,true,false] {tmps:=#[u0,.int .u64 (N:Int),u2,.pointer (some ⟨b3,0,none⟩),u4,u5,.pointer (some ⟨b6,0,none⟩),u7,u8,u9,u10,u11,u12,u13,u14,u15,u16,u17,u18,u19,u20,u21,u22,u23,.pointer (some ⟨b,0,none⟩),.int .u64 (N:Int),.agg (z00 A).toArray,.slice (some ⟨gt,0,none⟩) 41 c,u28],defers:=df} w:=fun gt c w hp=>by
    refine wpAnyIn_ready (rs:=[4]) (by kernel_rfl) (by simp) ?_
    refine AllReadyIn.cons (o:=⟨some 28,.call {callee:=.value (.func 49),args:=#[.tmp 24,.tmp 27],argTypes:=#[54,30]},26,"met.go:50",#[⟨0,.data⟩,⟨3,.data⟩,⟨3,.chain⟩],none⟩) rfl (fun K hK=>?_) ?_
    · refine z1d rfl (by intro c h;cases h) hF hn (by go_simp) ((cT gt c w hp).mono ?_)
      rintro e w' ⟨rfl,hp⟩
      exact ⟨_,rfl,hK _ _ (h11111 gt c w' hp)⟩
    exact AllReadyIn.nil
  have h01110:∀ (gt c:Nat) (w:World),P1 gt c w→wpAnyIn F n Tryd.prog .any z1t Q 2 #[false,true,true,true,false] {tmps:=#[u0,.int .u64 (N:Int),u2,.pointer (some ⟨b3,0,none⟩),u4,u5,.pointer (some ⟨b6,0,none⟩),u7,u8,u9,u10,u11,u12,u13,u14,u15,u16,u17,u18,u19,u20,u21,u22,u23,u24,.int .u64 (N:Int),.agg (z00 A).toArray,.slice (some ⟨gt,0,none⟩) 41 c,u28],defers:=df} w:=fun gt c w hp=>by
    refine wpAnyIn_ready (rs:=[0]) (by kernel_rfl) (by simp) ?_
    refine AllReadyIn.cons (o:=⟨some 24,.load 54 (.tmp 3),54,"met.go:50",#[],none⟩) rfl (fun K hK=>?_) ?_
    · exact z0g (v:=.pointer (some ⟨b,0,none⟩)) rfl (by intro c h;cases h) rfl (by have hx:=k1 gt c w hp;go_simp) (hK _ _ (h11110 gt c w hp))
    exact AllReadyIn.nil
  have h11100:wpAnyIn F n Tryd.prog .any z1t Q 2 #[true,true,true,false,false] {tmps:=#[u0,.int .u64 (N:Int),u2,.pointer (some ⟨b3,0,none⟩),u4,u5,.pointer (some ⟨b6,0,none⟩),u7,u8,u9,u10,u11,u12,u13,u14,u15,u16,u17,u18,u19,u20,u21,u22,u23,.pointer (some ⟨b,0,none⟩),.int .u64 (N:Int),.agg (z00 A).toArray,u27,u28],defers:=df} W.drew:= by
    refine wpAnyIn_ready (rs:=[3]) (by kernel_rfl) (by simp) ?_
    refine AllReadyIn.cons (o:=⟨some 27,.call {callee:=.value (.func 51),args:=#[.tmp 25,.tmp 26],argTypes:=#[22,26]},30,"met.go:50",#[⟨1,.data⟩,⟨2,.data⟩],none⟩) rfl (fun K hK=>?_) ?_
    · refine z1d rfl (by intro c h;cases h) hF hn (by go_simp) (cF.mono ?_)
      rintro e w' ⟨gt,c,rfl,hp⟩
      exact ⟨_,rfl,hK _ _ (h11110 gt c w' hp)⟩
    exact AllReadyIn.nil
  have h01100:wpAnyIn F n Tryd.prog .any z1t Q 3 #[false,true,true,false,false] {tmps:=#[u0,.int .u64 (N:Int),u2,.pointer (some ⟨b3,0,none⟩),u4,u5,.pointer (some ⟨b6,0,none⟩),u7,u8,u9,u10,u11,u12,u13,u14,u15,u16,u17,u18,u19,u20,u21,u22,u23,u24,.int .u64 (N:Int),.agg (z00 A).toArray,u27,u28],defers:=df} W.drew:= by
    refine wpAnyIn_ready (rs:=[0,3]) (by kernel_rfl) (by simp) ?_
    refine AllReadyIn.cons (o:=⟨some 24,.load 54 (.tmp 3),54,"met.go:50",#[],none⟩) rfl (fun K hK=>?_) ?_
    · exact z0g (v:=.pointer (some ⟨b,0,none⟩)) rfl (by intro c h;cases h) rfl (by have hx:=d3;go_simp) (hK _ _ h11100)
    refine AllReadyIn.cons (o:=⟨some 27,.call {callee:=.value (.func 51),args:=#[.tmp 25,.tmp 26],argTypes:=#[22,26]},30,"met.go:50",#[⟨1,.data⟩,⟨2,.data⟩],none⟩) rfl (fun K hK=>?_) ?_
    · refine z1d rfl (by intro c h;cases h) hF hn (by go_simp) (cF.mono ?_)
      rintro e w' ⟨gt,c,rfl,hp⟩
      exact ⟨_,rfl,hK _ _ (h01110 gt c w' hp)⟩
    exact AllReadyIn.nil
  have h10100:wpAnyIn F n Tryd.prog .any z1t Q 3 #[true,false,true,false,false] {tmps:=#[u0,.int .u64 (N:Int),u2,.pointer (some ⟨b3,0,none⟩),u4,u5,.pointer (some ⟨b6,0,none⟩),u7,u8,u9,u10,u11,u12,u13,u14,u15,u16,u17,u18,u19,u20,u21,u22,u23,.pointer (some ⟨b,0,none⟩),u25,.agg (z00 A).toArray,u27,u28],defers:=df} W.drew:= by
    refine wpAnyIn_ready (rs:=[1]) (by kernel_rfl) (by simp) ?_
    refine AllReadyIn.cons (o:=⟨some 25,.move (.tmp 1),22,"met.go:50",#[],none⟩) rfl (fun K hK=>?_) ?_
    · exact z0g (v:=.int .u64 (N:Int)) rfl (by intro c h;cases h) rfl rfl (hK _ _ h11100)
    exact AllReadyIn.nil
  have h11000:wpAnyIn F n Tryd.prog .any z1t Q 3 #[true,true,false,false,false] {tmps:=#[u0,.int .u64 (N:Int),u2,.pointer (some ⟨b3,0,none⟩),u4,u5,.pointer (some ⟨b6,0,none⟩),u7,u8,u9,u10,u11,u12,u13,u14,u15,u16,u17,u18,u19,u20,u21,u22,u23,.pointer (some ⟨b,0,none⟩),.int .u64 (N:Int),u26,u27,u28],defers:=df} W.drew:= by
    refine wpAnyIn_ready (rs:=[2]) (by kernel_rfl) (by simp) ?_
    refine AllReadyIn.cons (o:=⟨some 26,.load 26 (.tmp 6),26,"met.go:50",#[],none⟩) rfl (fun K hK=>?_) ?_
    · exact z0g (v:=.agg (z00 A).toArray) rfl (by intro c h;cases h) rfl (z0u (run_loadAt_mid (P:=Tryd.prog) W.drew b6 0 26 _ _ d6 Tryd.underlying26 rfl (z0a lA))) (hK _ _ h11100)
    exact AllReadyIn.nil
  have h00100:wpAnyIn F n Tryd.prog .any z1t Q 4 #[false,false,true,false,false] {tmps:=#[u0,.int .u64 (N:Int),u2,.pointer (some ⟨b3,0,none⟩),u4,u5,.pointer (some ⟨b6,0,none⟩),u7,u8,u9,u10,u11,u12,u13,u14,u15,u16,u17,u18,u19,u20,u21,u22,u23,u24,u25,.agg (z00 A).toArray,u27,u28],defers:=df} W.drew:= by
    refine wpAnyIn_ready (rs:=[0,1]) (by kernel_rfl) (by simp) ?_
    refine AllReadyIn.cons (o:=⟨some 24,.load 54 (.tmp 3),54,"met.go:50",#[],none⟩) rfl (fun K hK=>?_) ?_
    · exact z0g (v:=.pointer (some ⟨b,0,none⟩)) rfl (by intro c h;cases h) rfl (by have hx:=d3;go_simp) (hK _ _ h10100)
    refine AllReadyIn.cons (o:=⟨some 25,.move (.tmp 1),22,"met.go:50",#[],none⟩) rfl (fun K hK=>?_) ?_
    · exact z0g (v:=.int .u64 (N:Int)) rfl (by intro c h;cases h) rfl rfl (hK _ _ h01100)
    exact AllReadyIn.nil
  have h01000:wpAnyIn F n Tryd.prog .any z1t Q 4 #[false,true,false,false,false] {tmps:=#[u0,.int .u64 (N:Int),u2,.pointer (some ⟨b3,0,none⟩),u4,u5,.pointer (some ⟨b6,0,none⟩),u7,u8,u9,u10,u11,u12,u13,u14,u15,u16,u17,u18,u19,u20,u21,u22,u23,u24,.int .u64 (N:Int),u26,u27,u28],defers:=df} W.drew:= by
    refine wpAnyIn_ready (rs:=[0,2]) (by kernel_rfl) (by simp) ?_
    refine AllReadyIn.cons (o:=⟨some 24,.load 54 (.tmp 3),54,"met.go:50",#[],none⟩) rfl (fun K hK=>?_) ?_
    · exact z0g (v:=.pointer (some ⟨b,0,none⟩)) rfl (by intro c h;cases h) rfl (by have hx:=d3;go_simp) (hK _ _ h11000)
    refine AllReadyIn.cons (o:=⟨some 26,.load 26 (.tmp 6),26,"met.go:50",#[],none⟩) rfl (fun K hK=>?_) ?_
    · exact z0g (v:=.agg (z00 A).toArray) rfl (by intro c h;cases h) rfl (z0u (run_loadAt_mid (P:=Tryd.prog) W.drew b6 0 26 _ _ d6 Tryd.underlying26 rfl (z0a lA))) (hK _ _ h01100)
    exact AllReadyIn.nil
  have h10000:wpAnyIn F n Tryd.prog .any z1t Q 4 #[true,false,false,false,false] {tmps:=#[u0,.int .u64 (N:Int),u2,.pointer (some ⟨b3,0,none⟩),u4,u5,.pointer (some ⟨b6,0,none⟩),u7,u8,u9,u10,u11,u12,u13,u14,u15,u16,u17,u18,u19,u20,u21,u22,u23,.pointer (some ⟨b,0,none⟩),u25,u26,u27,u28],defers:=df} W.drew:= by
    refine wpAnyIn_ready (rs:=[1,2]) (by kernel_rfl) (by simp) ?_
    refine AllReadyIn.cons (o:=⟨some 25,.move (.tmp 1),22,"met.go:50",#[],none⟩) rfl (fun K hK=>?_) ?_
    · exact z0g (v:=.int .u64 (N:Int)) rfl (by intro c h;cases h) rfl rfl (hK _ _ h11000)
    refine AllReadyIn.cons (o:=⟨some 26,.load 26 (.tmp 6),26,"met.go:50",#[],none⟩) rfl (fun K hK=>?_) ?_
    · exact z0g (v:=.agg (z00 A).toArray) rfl (by intro c h;cases h) rfl (z0u (run_loadAt_mid (P:=Tryd.prog) W.drew b6 0 26 _ _ d6 Tryd.underlying26 rfl (z0a lA))) (hK _ _ h10100)
    exact AllReadyIn.nil
  have h00000:wpAnyIn F n Tryd.prog .any z1t Q 5 #[false,false,false,false,false] {tmps:=#[u0,.int .u64 (N:Int),u2,.pointer (some ⟨b3,0,none⟩),u4,u5,.pointer (some ⟨b6,0,none⟩),u7,u8,u9,u10,u11,u12,u13,u14,u15,u16,u17,u18,u19,u20,u21,u22,u23,u24,u25,u26,u27,u28],defers:=df} W.drew:= by
    refine wpAnyIn_ready (rs:=[0,1,2]) (by kernel_rfl) (by simp) ?_
    refine AllReadyIn.cons (o:=⟨some 24,.load 54 (.tmp 3),54,"met.go:50",#[],none⟩) rfl (fun K hK=>?_) ?_
    · exact z0g (v:=.pointer (some ⟨b,0,none⟩)) rfl (by intro c h;cases h) rfl (by have hx:=d3;go_simp) (hK _ _ h10000)
    refine AllReadyIn.cons (o:=⟨some 25,.move (.tmp 1),22,"met.go:50",#[],none⟩) rfl (fun K hK=>?_) ?_
    · exact z0g (v:=.int .u64 (N:Int)) rfl (by intro c h;cases h) rfl rfl (hK _ _ h01000)
    refine AllReadyIn.cons (o:=⟨some 26,.load 26 (.tmp 6),26,"met.go:50",#[],none⟩) rfl (fun K hK=>?_) ?_
    · exact z0g (v:=.agg (z00 A).toArray) rfl (by intro c h;cases h) rfl (z0u (run_loadAt_mid (P:=Tryd.prog) W.drew b6 0 26 _ _ d6 Tryd.underlying26 rfl (z0a lA))) (hK _ _ h00100)
    exact AllReadyIn.nil
  refine wpIn_region_any (by kernel_rfl) ?_
  exact h00000
def z1n:Array Oper:=#[⟨some 19,.load 54 (.tmp 3),54,"met.go:47",#[],none⟩,⟨some 20,.load 26 (.tmp 8),26,"met.go:47",#[],none⟩,⟨some 21,.load 26 (.tmp 6),26,"met.go:47",#[],none⟩,⟨some 22,.call {callee:=.value (.func 50),args:=#[.tmp 20,.tmp 21],argTypes:=#[26,26]},30,"met.go:47",#[⟨1,.data⟩,⟨2,.data⟩],none⟩,⟨some 23,.call {callee:=.value (.func 49),args:=#[.tmp 19,.tmp 22],argTypes:=#[54,30]},26,"met.go:47",#[⟨0,.data⟩,⟨3,.data⟩,⟨3,.chain⟩],none⟩,⟨none,.store 26 (.tmp 6) (.tmp 23),0,"met.go:47",#[⟨4,.data⟩,⟨4,.chain⟩,⟨0,.phase⟩,⟨1,.phase⟩,⟨2,.phase⟩,⟨3,.phase⟩,⟨4,.phase⟩],none⟩]
set_option maxHeartbeats 1000000 in
theorem bag7 {F:Fence} {n:Nat} (hF:∀ f,F.fn f) (hn:F.depth.isSome=true→1≤n) {Q:Exit→Act→World→Prop} {u0 u1 u2 u4 u5 u7 u9 u10 u11 u12 u13 u14 u15 u16 u17 u18 u19 u20 u21 u22 u23 u24 u25 u26 u27 u28:Value} {df:List Deferred} (W:World) (b3 b6 b8 b:Nat) (L A X:List Int) (lL:L.length=32) (lA:A.length=32) (lX:X.length=32) (c3:W.cell? ⟨b3,0,none⟩=some (.pointer (some ⟨b,0,none⟩))) (r8:W.rangeAt b8 0 (z00 L)) (r6:W.rangeAt b6 0 (z00 A)) (P1:Nat→Nat→World→Prop) (P2:World→Prop) (k1:∀ gt c w,P1 gt c w→w.cell? ⟨b3,0,none⟩=some (.pointer (some ⟨b,0,none⟩)))
    (cF:CallsIn F (n - 1) Tryd.prog 50 #[.agg (z00 L).toArray,.agg (z00 A).toArray] W.drew fun e w'=>∃ (gt:Nat) (c:Nat),e=.returned (.slice (some ⟨gt,0,none⟩) 65 c)∧P1 gt c w')
    (cT:∀ gt c w,P1 gt c w→CallsIn F (n - 1) Tryd.prog 49 #[.pointer (some ⟨b,0,none⟩),.slice (some ⟨gt,0,none⟩) 65 c] w fun e w'=>e=.returned (.agg (z00 X).toArray)∧P2 w')
    (st:∀ w,P2 w→Has w b6 (z00 A).toArray 26) (h:∀ (gt c:Nat) w,P2 w→Q .normal {tmps:=#[u0,u1,u2,.pointer (some ⟨b3,0,none⟩),u4,u5,.pointer (some ⟨b6,0,none⟩),u7,.pointer (some ⟨b8,0,none⟩),u9,u10,u11,u12,u13,u14,u15,u16,u17,u18,.pointer (some ⟨b,0,none⟩),.agg (z00 L).toArray,.agg (z00 A).toArray,.slice (some ⟨gt,0,none⟩) 65 c,.agg (z00 X).toArray,u24,u25,u26,u27,u28],defers:=df} (w.setRow b6 (z00 X).toArray)):
    (Code.region 7 z1n true).wpIn F n Tryd.prog Q {tmps:=#[u0,u1,u2,.pointer (some ⟨b3,0,none⟩),u4,u5,.pointer (some ⟨b6,0,none⟩),u7,.pointer (some ⟨b8,0,none⟩),u9,u10,u11,u12,u13,u14,u15,u16,u17,u18,u19,u20,u21,u22,u23,u24,u25,u26,u27,u28],defers:=df} W:=by
  have d8:W.drew.rangeAt b8 0 (z00 L):=(World.rangeAt_drew _ _ _ _).2 r8
  have d6:W.drew.rangeAt b6 0 (z00 A):=(World.rangeAt_drew _ _ _ _).2 r6
  have d3:W.drew.cell? ⟨b3,0,none⟩=some (.pointer (some ⟨b,0,none⟩)):=c3
  have h111111:∀ (gt c:Nat) (w:World),P2 w→wpAnyIn F n Tryd.prog .any z1n Q 0 #[true,true,true,true,true,true] {tmps:=#[u0,u1,u2,.pointer (some ⟨b3,0,none⟩),u4,u5,.pointer (some ⟨b6,0,none⟩),u7,.pointer (some ⟨b8,0,none⟩),u9,u10,u11,u12,u13,u14,u15,u16,u17,u18,.pointer (some ⟨b,0,none⟩),.agg (z00 L).toArray,.agg (z00 A).toArray,.slice (some ⟨gt,0,none⟩) 65 c,.agg (z00 X).toArray,u24,u25,u26,u27,u28],defers:=df} (w.setRow b6 (z00 X).toArray):=fun gt c w hp=>by
    exact wpAnyIn_done (by kernel_rfl) (h gt c w hp) _
  have h111110:∀ (gt c:Nat) (w:World),P2 w→wpAnyIn F n Tryd.prog .any z1n Q 1 #[true,true,true,true,true,false] {tmps:=#[u0,u1,u2,.pointer (some ⟨b3,0,none⟩),u4,u5,.pointer (some ⟨b6,0,none⟩),u7,.pointer (some ⟨b8,0,none⟩),u9,u10,u11,u12,u13,u14,u15,u16,u17,u18,.pointer (some ⟨b,0,none⟩),.agg (z00 L).toArray,.agg (z00 A).toArray,.slice (some ⟨gt,0,none⟩) 65 c,.agg (z00 X).toArray,u24,u25,u26,u27,u28],defers:=df} w:=fun gt c w hp=>by
    refine wpAnyIn_ready (rs:=[5]) (by kernel_rfl) (by simp) ?_
    refine AllReadyIn.cons (o:=⟨none,.store 26 (.tmp 6) (.tmp 23),0,"met.go:47",#[⟨4,.data⟩,⟨4,.chain⟩,⟨0,.phase⟩,⟨1,.phase⟩,⟨2,.phase⟩,⟨3,.phase⟩,⟨4,.phase⟩],none⟩) rfl (fun K hK=>?_) ?_
    · exact z8A rfl (by intro c h;cases h) rfl (z39 (z2x (st w hp) lA lX)) (hK _ _ (h111111 gt c w hp))
    exact AllReadyIn.nil
  have h111100:∀ (gt c:Nat) (w:World),P1 gt c w→wpAnyIn F n Tryd.prog .any z1n Q 2 #[true,true,true,true,false,false] {tmps:=#[u0,u1,u2,.pointer (some ⟨b3,0,none⟩),u4,u5,.pointer (some ⟨b6,0,none⟩),u7,.pointer (some ⟨b8,0,none⟩),u9,u10,u11,u12,u13,u14,u15,u16,u17,u18,.pointer (some ⟨b,0,none⟩),.agg (z00 L).toArray,.agg (z00 A).toArray,.slice (some ⟨gt,0,none⟩) 65 c,u23,u24,u25,u26,u27,u28],defers:=df} w:=fun gt c w hp=>by
    refine wpAnyIn_ready (rs:=[4]) (by kernel_rfl) (by simp) ?_
    refine AllReadyIn.cons (o:=⟨some 23,.call {callee:=.value (.func 49),args:=#[.tmp 19,.tmp 22],argTypes:=#[54,30]},26,"met.go:47",#[⟨0,.data⟩,⟨3,.data⟩,⟨3,.chain⟩],none⟩) rfl (fun K hK=>?_) ?_
    · refine z1d rfl (by intro c h;cases h) hF hn (by go_simp) ((cT gt c w hp).mono ?_)
      rintro e w' ⟨rfl,hp⟩
      exact ⟨_,rfl,hK _ _ (h111110 gt c w' hp)⟩
    exact AllReadyIn.nil
  have h011100:∀ (gt c:Nat) (w:World),P1 gt c w→wpAnyIn F n Tryd.prog .any z1n Q 3 #[false,true,true,true,false,false] {tmps:=#[u0,u1,u2,.pointer (some ⟨b3,0,none⟩),u4,u5,.pointer (some ⟨b6,0,none⟩),u7,.pointer (some ⟨b8,0,none⟩),u9,u10,u11,u12,u13,u14,u15,u16,u17,u18,u19,.agg (z00 L).toArray,.agg (z00 A).toArray,.slice (some ⟨gt,0,none⟩) 65 c,u23,u24,u25,u26,u27,u28],defers:=df} w:=fun gt c w hp=>by
    refine wpAnyIn_ready (rs:=[0]) (by kernel_rfl) (by simp) ?_
    refine AllReadyIn.cons (o:=⟨some 19,.load 54 (.tmp 3),54,"met.go:47",#[],none⟩) rfl (fun K hK=>?_) ?_
    · exact z0g (v:=.pointer (some ⟨b,0,none⟩)) rfl (by intro c h;cases h) rfl (by have hx:=k1 gt c w hp;go_simp) (hK _ _ (h111100 gt c w hp))
    exact AllReadyIn.nil
  have h111000:wpAnyIn F n Tryd.prog .any z1n Q 3 #[true,true,true,false,false,false] {tmps:=#[u0,u1,u2,.pointer (some ⟨b3,0,none⟩),u4,u5,.pointer (some ⟨b6,0,none⟩),u7,.pointer (some ⟨b8,0,none⟩),u9,u10,u11,u12,u13,u14,u15,u16,u17,u18,.pointer (some ⟨b,0,none⟩),.agg (z00 L).toArray,.agg (z00 A).toArray,u22,u23,u24,u25,u26,u27,u28],defers:=df} W.drew:= by
    refine wpAnyIn_ready (rs:=[3]) (by kernel_rfl) (by simp) ?_
    refine AllReadyIn.cons (o:=⟨some 22,.call {callee:=.value (.func 50),args:=#[.tmp 20,.tmp 21],argTypes:=#[26,26]},30,"met.go:47",#[⟨1,.data⟩,⟨2,.data⟩],none⟩) rfl (fun K hK=>?_) ?_
    · refine z1d rfl (by intro c h;cases h) hF hn (by go_simp) (cF.mono ?_)
      rintro e w' ⟨gt,c,rfl,hp⟩
      exact ⟨_,rfl,hK _ _ (h111100 gt c w' hp)⟩
    exact AllReadyIn.nil
  have h011000:wpAnyIn F n Tryd.prog .any z1n Q 4 #[false,true,true,false,false,false] {tmps:=#[u0,u1,u2,.pointer (some ⟨b3,0,none⟩),u4,u5,.pointer (some ⟨b6,0,none⟩),u7,.pointer (some ⟨b8,0,none⟩),u9,u10,u11,u12,u13,u14,u15,u16,u17,u18,u19,.agg (z00 L).toArray,.agg (z00 A).toArray,u22,u23,u24,u25,u26,u27,u28],defers:=df} W.drew:= by
    refine wpAnyIn_ready (rs:=[0,3]) (by kernel_rfl) (by simp) ?_
    refine AllReadyIn.cons (o:=⟨some 19,.load 54 (.tmp 3),54,"met.go:47",#[],none⟩) rfl (fun K hK=>?_) ?_
    · exact z0g (v:=.pointer (some ⟨b,0,none⟩)) rfl (by intro c h;cases h) rfl (by have hx:=d3;go_simp) (hK _ _ h111000)
    refine AllReadyIn.cons (o:=⟨some 22,.call {callee:=.value (.func 50),args:=#[.tmp 20,.tmp 21],argTypes:=#[26,26]},30,"met.go:47",#[⟨1,.data⟩,⟨2,.data⟩],none⟩) rfl (fun K hK=>?_) ?_
    · refine z1d rfl (by intro c h;cases h) hF hn (by go_simp) (cF.mono ?_)
      rintro e w' ⟨gt,c,rfl,hp⟩
      exact ⟨_,rfl,hK _ _ (h011100 gt c w' hp)⟩
    exact AllReadyIn.nil
  have h101000:wpAnyIn F n Tryd.prog .any z1n Q 4 #[true,false,true,false,false,false] {tmps:=#[u0,u1,u2,.pointer (some ⟨b3,0,none⟩),u4,u5,.pointer (some ⟨b6,0,none⟩),u7,.pointer (some ⟨b8,0,none⟩),u9,u10,u11,u12,u13,u14,u15,u16,u17,u18,.pointer (some ⟨b,0,none⟩),u20,.agg (z00 A).toArray,u22,u23,u24,u25,u26,u27,u28],defers:=df} W.drew:= by
    refine wpAnyIn_ready (rs:=[1]) (by kernel_rfl) (by simp) ?_
    refine AllReadyIn.cons (o:=⟨some 20,.load 26 (.tmp 8),26,"met.go:47",#[],none⟩) rfl (fun K hK=>?_) ?_
    · exact z0g (v:=.agg (z00 L).toArray) rfl (by intro c h;cases h) rfl (z0u (run_loadAt_mid (P:=Tryd.prog) W.drew b8 0 26 _ _ d8 Tryd.underlying26 rfl (z0a lL))) (hK _ _ h111000)
    exact AllReadyIn.nil
  have h110000:wpAnyIn F n Tryd.prog .any z1n Q 4 #[true,true,false,false,false,false] {tmps:=#[u0,u1,u2,.pointer (some ⟨b3,0,none⟩),u4,u5,.pointer (some ⟨b6,0,none⟩),u7,.pointer (some ⟨b8,0,none⟩),u9,u10,u11,u12,u13,u14,u15,u16,u17,u18,.pointer (some ⟨b,0,none⟩),.agg (z00 L).toArray,u21,u22,u23,u24,u25,u26,u27,u28],defers:=df} W.drew:= by
    refine wpAnyIn_ready (rs:=[2]) (by kernel_rfl) (by simp) ?_
    refine AllReadyIn.cons (o:=⟨some 21,.load 26 (.tmp 6),26,"met.go:47",#[],none⟩) rfl (fun K hK=>?_) ?_
    · exact z0g (v:=.agg (z00 A).toArray) rfl (by intro c h;cases h) rfl (z0u (run_loadAt_mid (P:=Tryd.prog) W.drew b6 0 26 _ _ d6 Tryd.underlying26 rfl (z0a lA))) (hK _ _ h111000)
    exact AllReadyIn.nil
  have h001000:wpAnyIn F n Tryd.prog .any z1n Q 5 #[false,false,true,false,false,false] {tmps:=#[u0,u1,u2,.pointer (some ⟨b3,0,none⟩),u4,u5,.pointer (some ⟨b6,0,none⟩),u7,.pointer (some ⟨b8,0,none⟩),u9,u10,u11,u12,u13,u14,u15,u16,u17,u18,u19,u20,.agg (z00 A).toArray,u22,u23,u24,u25,u26,u27,u28],defers:=df} W.drew:= by
    refine wpAnyIn_ready (rs:=[0,1]) (by kernel_rfl) (by simp) ?_
    refine AllReadyIn.cons (o:=⟨some 19,.load 54 (.tmp 3),54,"met.go:47",#[],none⟩) rfl (fun K hK=>?_) ?_
    · exact z0g (v:=.pointer (some ⟨b,0,none⟩)) rfl (by intro c h;cases h) rfl (by have hx:=d3;go_simp) (hK _ _ h101000)
    refine AllReadyIn.cons (o:=⟨some 20,.load 26 (.tmp 8),26,"met.go:47",#[],none⟩) rfl (fun K hK=>?_) ?_
    · exact z0g (v:=.agg (z00 L).toArray) rfl (by intro c h;cases h) rfl (z0u (run_loadAt_mid (P:=Tryd.prog) W.drew b8 0 26 _ _ d8 Tryd.underlying26 rfl (z0a lL))) (hK _ _ h011000)
    exact AllReadyIn.nil
  have h010000:wpAnyIn F n Tryd.prog .any z1n Q 5 #[false,true,false,false,false,false] {tmps:=#[u0,u1,u2,.pointer (some ⟨b3,0,none⟩),u4,u5,.pointer (some ⟨b6,0,none⟩),u7,.pointer (some ⟨b8,0,none⟩),u9,u10,u11,u12,u13,u14,u15,u16,u17,u18,u19,.agg (z00 L).toArray,u21,u22,u23,u24,u25,u26,u27,u28],defers:=df} W.drew:= by
    refine wpAnyIn_ready (rs:=[0,2]) (by kernel_rfl) (by simp) ?_
    refine AllReadyIn.cons (o:=⟨some 19,.load 54 (.tmp 3),54,"met.go:47",#[],none⟩) rfl (fun K hK=>?_) ?_
    · exact z0g (v:=.pointer (some ⟨b,0,none⟩)) rfl (by intro c h;cases h) rfl (by have hx:=d3;go_simp) (hK _ _ h110000)
    refine AllReadyIn.cons (o:=⟨some 21,.load 26 (.tmp 6),26,"met.go:47",#[],none⟩) rfl (fun K hK=>?_) ?_
    · exact z0g (v:=.agg (z00 A).toArray) rfl (by intro c h;cases h) rfl (z0u (run_loadAt_mid (P:=Tryd.prog) W.drew b6 0 26 _ _ d6 Tryd.underlying26 rfl (z0a lA))) (hK _ _ h011000)
    exact AllReadyIn.nil
  have h100000:wpAnyIn F n Tryd.prog .any z1n Q 5 #[true,false,false,false,false,false] {tmps:=#[u0,u1,u2,.pointer (some ⟨b3,0,none⟩),u4,u5,.pointer (some ⟨b6,0,none⟩),u7,.pointer (some ⟨b8,0,none⟩),u9,u10,u11,u12,u13,u14,u15,u16,u17,u18,.pointer (some ⟨b,0,none⟩),u20,u21,u22,u23,u24,u25,u26,u27,u28],defers:=df} W.drew:= by
    refine wpAnyIn_ready (rs:=[1,2]) (by kernel_rfl) (by simp) ?_
    refine AllReadyIn.cons (o:=⟨some 20,.load 26 (.tmp 8),26,"met.go:47",#[],none⟩) rfl (fun K hK=>?_) ?_
    · exact z0g (v:=.agg (z00 L).toArray) rfl (by intro c h;cases h) rfl (z0u (run_loadAt_mid (P:=Tryd.prog) W.drew b8 0 26 _ _ d8 Tryd.underlying26 rfl (z0a lL))) (hK _ _ h110000)
    refine AllReadyIn.cons (o:=⟨some 21,.load 26 (.tmp 6),26,"met.go:47",#[],none⟩) rfl (fun K hK=>?_) ?_
    · exact z0g (v:=.agg (z00 A).toArray) rfl (by intro c h;cases h) rfl (z0u (run_loadAt_mid (P:=Tryd.prog) W.drew b6 0 26 _ _ d6 Tryd.underlying26 rfl (z0a lA))) (hK _ _ h101000)
    exact AllReadyIn.nil
  have h000000:wpAnyIn F n Tryd.prog .any z1n Q 6 #[false,false,false,false,false,false] {tmps:=#[u0,u1,u2,.pointer (some ⟨b3,0,none⟩),u4,u5,.pointer (some ⟨b6,0,none⟩),u7,.pointer (some ⟨b8,0,none⟩),u9,u10,u11,u12,u13,u14,u15,u16,u17,u18,u19,u20,u21,u22,u23,u24,u25,u26,u27,u28],defers:=df} W.drew:= by
    refine wpAnyIn_ready (rs:=[0,1,2]) (by kernel_rfl) (by simp) ?_
    refine AllReadyIn.cons (o:=⟨some 19,.load 54 (.tmp 3),54,"met.go:47",#[],none⟩) rfl (fun K hK=>?_) ?_
    · exact z0g (v:=.pointer (some ⟨b,0,none⟩)) rfl (by intro c h;cases h) rfl (by have hx:=d3;go_simp) (hK _ _ h100000)
    refine AllReadyIn.cons (o:=⟨some 20,.load 26 (.tmp 8),26,"met.go:47",#[],none⟩) rfl (fun K hK=>?_) ?_
    · exact z0g (v:=.agg (z00 L).toArray) rfl (by intro c h;cases h) rfl (z0u (run_loadAt_mid (P:=Tryd.prog) W.drew b8 0 26 _ _ d8 Tryd.underlying26 rfl (z0a lL))) (hK _ _ h010000)
    refine AllReadyIn.cons (o:=⟨some 21,.load 26 (.tmp 6),26,"met.go:47",#[],none⟩) rfl (fun K hK=>?_) ?_
    · exact z0g (v:=.agg (z00 A).toArray) rfl (by intro c h;cases h) rfl (z0u (run_loadAt_mid (P:=Tryd.prog) W.drew b6 0 26 _ _ d6 Tryd.underlying26 rfl (z0a lA))) (hK _ _ h001000)
    exact AllReadyIn.nil
  refine wpIn_region_any (by kernel_rfl) ?_
  exact h000000
end Go.Proofs.YtbmjoiiagldklaaDoor

namespace Go.Proofs.YtbmjoiiagldklaaDoor
open Go.RowKit
set_option maxRecDepth 100000
end Go.Proofs.YtbmjoiiagldklaaDoor

namespace Go.Proofs.YtbmjoiiagldklaaDoor
open Go.RowKit
end Go.Proofs.YtbmjoiiagldklaaDoor

namespace Go.Proofs.YtbmjoiiagldklaaDoor
open Go.RowKit
set_option maxRecDepth 100000
theorem z6X {w:World} {base:Nat} {t:TypeId} {s:Nat} {v:Value} {n:Nat} {xs:List Value} (h:w.ownsRow base t s v n xs):∃ ad cap,v=.slice ad n cap∧n≤cap∧(0<n→∃ g,ad=some ⟨g,0,none⟩∧base≤g∧g<w.heap.size):=by
  rcases h.2 with ⟨rfl,h0⟩ | ⟨g,cap,cur,rfl,hb,hg,r⟩
  · subst h0
    exact ⟨none,0,rfl,Nat.le_refl _,fun h=>by omega⟩
  · exact ⟨_,cap,rfl,r.1,fun _=>⟨g,rfl,hb,(Array.getElem?_eq_some_iff.1 hg).1⟩⟩
end Go.Proofs.YtbmjoiiagldklaaDoor
