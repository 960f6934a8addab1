/- Texts of SpanVerifies, one behind the other: PosKin, PosPlace, PosOk, PosBackward, PosPeaksCall, PosPath, PosSpotRow, PosHas, PosForestMap. -/
import Derived.Deep.QuietTactic
import Derived.BigQuiet
import Derived.Deep.RegionHeld3
import Derived.RangeFuncBox
import Derived.RangeFuncLeaves
import Derived.RangeFuncCalls
import Derived.Shelf.Abstract
import Derived.Shelf.RegionOpen
import Derived.WalkKit
import Derived.OwnWalkIn
import Derived.TacticsInMore
import Derived.LoopNIn
import Derived.LoopIn
import Derived.Maps.AppendAt
import Derived.RangeFuncNested
import Derived.Deep.AppendLies
import Derived.Test.YthdpkaiieomdoaaGreatDoorProg
import Derived.WalkLawsBesides
import Derived.Deep.WholeRow
import Derived.Deep.LoopGhost
import Derived.Laws.ResultCell
import Derived.Laws.Rows
import Derived.Laws.Tables
import Derived.Maps.OwnSet
import Derived.DeepKeys4
import Derived.Test.YthdpkaiieomdoaaGreatDoorSpanVerifiesP2
namespace Go.Proofs.YthdpkaiieomdoaaGreatDoor
open Go.RowKit
def SpotAt (p:Int) (h k:Nat) (ok:Bool):Prop:=∀ w,Calls Tryz.prog 96 #[.int .u64 p] w fun e w'=>e=.returned (.tuple #[SPOT h k,.bool ok])∧Below w.heap.size w w'
theorem SpotAt.node {h k:Nat} (hN:Node h k):SpotAt ((PLC h k:Nat):Int) h k true:=fun w=>ze9 h k hN w
theorem SpotAt.out {p:Int} (hp:9223372036854775807≤p):SpotAt p 0 0 false:=fun w=>zcH p hp w
theorem zbh (p:Int) (h k:Nat) (r s:Int) (w:World) (e0:IntKind.u64.wrap ((k:Int)+1)=(k:Int)+1) (e1:IntKind.u64.wrap ((k:Int)*2 ^ min h 64)=r) (e2:IntKind.u64.wrap (((k:Int)+1)*2 ^ min h 64)=s) (cs:SpotAt p h k true):
    Calls Tryz.prog 163 #[.int .u64 p] w fun e w'=>e=.returned (.tuple #[.int .u64 r,.int .u64 s,.bool true])∧Below w.heap.size w w':=by
  have cs:=cs w
  go_enter Tryz.func163,Tryz.ntmps163
  go_wp2_with fail
  refine cs.mono ?_
  rintro e w1 ⟨rfl,hb⟩
  clear cs
  have R:Aside (Below w.heap.size w w1):=hb
  clear hb
  go_wp2
  have hc0:(w1.alloc (.cells #[.int .u8 (h:Int),.int .u64 (k:Int)] 78)).cell? ⟨w1.heap.size,0,none⟩=some (.int .u8 (h:Int)):=by simp
  have hc1:(w1.alloc (.cells #[.int .u8 (h:Int),.int .u64 (k:Int)] 78)).cell? ⟨w1.heap.size,1,none⟩=some (.int .u64 (k:Int)):=by simp
  have R2:Aside (Below w.heap.size w (w1.alloc (.cells #[.int .u8 (h:Int),.int .u64 (k:Int)] 78))):=R.out.alloc R.out.size _
  clear R
  generalize w1.alloc (.cells #[.int .u8 (h:Int),.int .u64 (k:Int)] 78)=W at *
  generalize w1.heap.size=b at *
  go_quiet (fail)
  go_wp2
  go_ret3
  exact ⟨rfl,below_drewN R2.out nq⟩
theorem zcI (p q:Int) (h g k:Nat) (r:Int) (w:World) (hh:((h:Int) == 0)=false) (hm:wrap64 (h:Int)=(h:Int)) (hg:wrap64 ((h:Int) - 1)=(g:Int)) (hq:IntKind.u64.wrap (p - 1)=q) (cs:SpotAt p h k true)
    (co:∀ w,Calls Tryz.prog 143 #[.int .u64 q,.int .i64 (g:Int),.bool true] w fun e w'=>e=.returned (.int .u64 r)∧w=w'):
    Calls Tryz.prog 121 #[.int .u64 p] w fun e w'=>e=.returned (.tuple #[.int .u64 r,.int .u64 q,.bool true])∧Below w.heap.size w w':=by
  have cs:=cs w
  go_enter Tryz.func121,Tryz.ntmps121
  go_wp2_with fail
  refine cs.mono ?_
  rintro e w1 ⟨rfl,hb⟩
  clear cs
  have R:Aside (Below w.heap.size w w1):=hb
  clear hb
  go_wp2_with fail
  refine (co _).mono ?_
  rintro e w2 ⟨rfl,rfl⟩
  clear co
  go_wp2
  go_ret3
  exact ⟨rfl,R.out.alloc R.out.size _⟩
theorem zbi (p:Int) (k:Nat) (w:World) (cs:SpotAt p 0 k true):Calls Tryz.prog 121 #[.int .u64 p] w fun e w'=>e=.returned (.tuple #[.int .u64 0,.int .u64 0,.bool false])∧Below w.heap.size w w':=by
  have cs:=cs w
  go_enter Tryz.func121,Tryz.ntmps121
  go_wp2_with fail
  refine cs.mono ?_
  rintro e w1 ⟨rfl,hb⟩
  clear cs
  have R:Aside (Below w.heap.size w w1):=hb
  clear hb
  go_wp2
  go_ret3
  exact ⟨rfl,R.out.alloc R.out.size _⟩
theorem z46 (p:Int) (h k:Nat) (b:Bool) (w:World) (ha:(bits .and .u64 (k:Int) 1 == 1)=b) (cs:SpotAt p h k true):
    Calls Tryz.prog 53 #[.int .u64 p] w fun e w'=>e=.returned (.bool b)∧Below w.heap.size w w':=by
  have cs:=cs w
  go_enter Tryz.func53,Tryz.ntmps53
  go_wp2_with fail
  refine cs.mono ?_
  rintro e w1 ⟨rfl,hb⟩
  clear cs
  have R:Aside (Below w.heap.size w w1):=hb
  clear hb
  go_wp2
  go_ret
  exact ⟨rfl,R.out.alloc R.out.size _⟩
end Go.Proofs.YthdpkaiieomdoaaGreatDoor

namespace Go.Proofs.YthdpkaiieomdoaaGreatDoor
open Go.RowKit
theorem z0A {P:Program} {f:FuncId} {args:Array Value} {w:World} {n:Nat} {v:Value}
    (h:Calls P f args (w.drewN n) fun e w'=>e=.returned v∧w.drewN n=w'):Calls P f args (w.drewN n) fun e w''=>e=.returned v∧∃ m,w''=w.drewN m:=
  h.mono fun _ _ ⟨he,hm⟩=>⟨he,n,hm.symm⟩
end Go.Proofs.YthdpkaiieomdoaaGreatDoor

namespace Go.Proofs.YthdpkaiieomdoaaGreatDoor
open Go.RowKit
theorem zea (k:Nat) (hk:k<2 ^ 64):bits .and .u64 (k:Int) 1=((k % 2:Nat):Int):=by
  have:bits .and .u64 (k:Int) ((1:Nat):Int)=((k &&& 1:Nat):Int):=z41 hk (by decide)
  rw [Nat.and_one_is_mod] at this
  exact this
theorem zf7 (k:Nat) (hk:k<2 ^ 64):(bits .and .u64 (k:Int) 1 == 1)=decide (k % 2=1):=by
  rw [zea k hk,Bool.eq_iff_iff]
  simp
  omega
theorem z7n (a h:Nat) (hh:h≤62) (hl:a*2 ^ h<2 ^ 64):IntKind.u64.wrap ((a:Int)*2 ^ min h 64)=((a*2 ^ h:Nat):Int):=by
  rw [show min h 64=h by omega,z5c,Nat.mod_eq_of_lt hl]
theorem Node.kid {h k:Nat} (a:Node (h+1) k):Node h (2*k)∧Node h (2*k+1):=by
  have h1:=a.1
  have h2:=a.2
  have e:2 ^ (62 - h)=2 ^ (62 - (h+1))*2:=by rw [← Nat.pow_succ];congr 1;omega
  exact ⟨⟨by omega,by rw [e];omega⟩,⟨by omega,by rw [e];omega⟩⟩
theorem z9q (h k:Nat) (hN:Node (h+1) k) (w:World):Calls Tryz.prog 121 #[.int .u64 ((PLC (h+1) k:Nat):Int)] w fun e w'=>e=.returned (.tuple #[.int .u64 ((PLC h (2*k):Nat):Int),.int .u64 ((PLC h (2*k+1):Nat):Int),.bool true])∧Below w.heap.size w w':=by
  have h1:=hN.1
  have h2:=z43 h k
  have h3:=zdU h k
  have h4:=hN.lt
  refine zcI _ ((PLC h (2*k+1):Nat):Int) (h+1) h k _ w (by simp;omega) (by unfold wrap64;omega) (by unfold wrap64;omega) (by rw [z09];omega) (.node hN) (fun w=>?_)
  have:=z7i (PLC h (2*k+1):Nat) (h:Int) (TREE h:Nat) w (fun w=>z4D h (by omega) w)
  rw [show IntKind.u64.wrap (((PLC h (2*k+1):Nat):Int) - ((TREE h:Nat):Int))=((PLC h (2*k):Nat):Int) by rw [z09];omega] at this
  exact this
theorem z2Q (h k:Nat) (hN:Node h k) (w:World):Calls Tryz.prog 53 #[.int .u64 ((PLC h k:Nat):Int)] w fun e w'=>e=.returned (.bool (decide (k % 2=1)))∧Below w.heap.size w w':=
  z46 _ h k _ w (zf7 k (by have:=hN.index_lt;omega)) (.node hN)
theorem z5f (h k:Nat) (hN:Node h k) (w:World):Calls Tryz.prog 163 #[.int .u64 ((PLC h k:Nat):Int)] w fun e w'=>e=.returned (.tuple #[.int .u64 ((k*2 ^ h:Nat):Int),.int .u64 (((k+1)*2 ^ h:Nat):Int),.bool true])∧Below w.heap.size w w':=by
  have h1:=hN.1
  have h3:=hN.span
  have h4:=hN.index_lt
  have h5:k*2 ^ h≤(k+1)*2 ^ h:=Nat.mul_le_mul_right _ (by omega)
  refine zbh _ h k _ _ w (by rw [z09];omega) (z7n k h h1 (by omega)) ?_ (.node hN)
  have:=z7n (k+1) h h1 (by omega)
  rw [show (((k+1:Nat)):Int)=(k:Int)+1 by omega] at this
  exact this
end Go.Proofs.YthdpkaiieomdoaaGreatDoor

namespace Go.Proofs.YthdpkaiieomdoaaGreatDoor
open Go.RowKit Go.Shelf
attribute [local go_sem] Oper.semAt_some
def UPTO {α:Type} (f:Nat→α) (k:Nat):List α:=(List.range k).map f
theorem z6u {α:Type} (f:Nat→α) (k:Nat):UPTO f (k+1)=UPTO f k ++ [f k]:=by simp [UPTO,List.range_succ]
theorem z4N {α:Type} (f:Nat→α) (k:Nat):(UPTO f k).length=k:=by simp [UPTO]
def KB (n₀ Bs:Nat) (A B:World):Prop:=Below n₀ A B∧B.cell? ⟨Bs,0,none⟩=A.cell? ⟨Bs,0,none⟩
theorem KB.t {n₀ Bs:Nat} {A B C:World} (h:KB n₀ Bs A B) (k:KB n₀ Bs B C):KB n₀ Bs A C:=⟨h.1.trans k.1,k.2.trans h.2⟩
theorem KB.b {n₀ Bs:Nat} {w:World} (hn:n₀≤w.heap.size) (hB:Bs<w.heap.size) (W:World) (l:Nat) (o o':Obj) (hl:w.heap.size≤l) (h:W.heap[l]?=some o) (h1:o.isCells=false) (h2:o.isWalk=false):KB n₀ Bs W (W.putObj l o'):=
  ⟨belowK_b hn W l o o' hl h h1 h2,(belowK_b (Nat.le_refl w.heap.size) W l o o' hl h h1 h2).cell (p:=⟨Bs,0,none⟩) hB⟩
def BACK (len:Nat) (f:Nat→Fin 64) (j:Nat):Nat × Fin 64:=(len - 1 - j,f (len - 1 - j))
set_option maxRecDepth 100000 in
set_option maxHeartbeats 2000000 in
theorem z7o (F:Fence) (n:Nat) (hF:F.fn 185) (hro:F.round=none) (hn:1≤n) (l Bs n₀ b len cap:Nat) (f:Nat→Fin 64) (hreach:len≤64) (hb:b<n₀) (J Jx:List (Nat × Fin 64)→World→Prop)
    (hY:∀ pre x W,J pre W→pre.length<len→YieldAt F (n - 1) Tryz.prog l #[.int .i64 (x.1:Int),.int .i64 (x.2.val:Int)] W fun e W'=>
      (e=.returned (.bool true)∧J (pre ++ [x]) W'∧KB n₀ Bs W W')∨(e=.returned (.bool false)∧Jx (pre ++ [x]) W'))
    (W:World) (hBs:W.cell? ⟨Bs,0,none⟩=some (.slice (some ⟨b,0,none⟩) len cap)) (hc:∀ j,j<len→W.cell? ⟨b,j,none⟩=some (.int .i64 ((f j).val:Int))) (h0:J [] W):
    CallsIn F n Tryz.prog 185 #[.func (.yield l) #[] #[],.pointer (some ⟨Bs,0,none⟩)] W fun e W'=>(∃ v,e=.returned v)∧
      ((∃ ys,ys=UPTO (BACK len f) len∧J ys W')∨(∃ pre,(∃ k,k≤len∧pre=UPTO (BACK len f) k)∧Jx pre W')):=by
  refine callsIn_of_wp Tryz.func185 rfl hF ?_ hro
  simp only [Tryz.ntmps185,List.size_toArray,List.length_cons,List.length_nil,Nat.reduceAdd,Nat.reduceSub,Array.replicate_succ,Array.replicate_zero,List.push_toArray,List.append_toArray,List.nil_append,List.cons_append]
  have e1:wrap64 ((len:Int) - 1)=(len:Int) - 1:=by unfold wrap64;omega
  gi_wp2
  gi_loopw [3] (fun i wr=>∃ k:Nat,k≤len∧i=.int .i64 ((len:Int) - 1 - (k:Int))∧J (UPTO (BACK len f) k) wr∧KB n₀ Bs W wr)
    (fun i _=>(intOf i+1).toNat)
  case atStart=>exact ⟨0,Nat.zero_le _,by simp,h0,Below.refl _ _,rfl⟩
  case round=>
    obtain ⟨k,hk,rfl,hJs,hnx⟩:=hrel
    by_cases hlt:k<len
    · obtain ⟨j,hj⟩:∃ j:Nat,(len:Int) - 1 - (k:Int)=(j:Int):=⟨len - 1 - k,by omega⟩
      have hjl:j<len:=by omega
      have hbk:BACK len f k=(j,f j):=by
        unfold BACK
        rw [show len - 1 - k=j by omega]
      have hcx:wr.cell? ⟨b,j,none⟩=some (.int .i64 ((f j).val:Int)):=(hnx.1.cell (p:=⟨b,j,none⟩) hb).trans (hc j hjl)
      have hcs:wr.cell? ⟨Bs,0,none⟩=some (.slice (some ⟨b,0,none⟩) len cap):=hnx.2.trans hBs
      obtain ⟨fn,tmps,assign,body,hy,hR⟩:=hY _ (j,f j) wr hJs (by rw [z4N];exact hlt)
      dsimp only at hy
      rw [hj]
      have e2:wrap64 ((j:Int) - 1)=(j:Int) - 1:=by unfold wrap64;omega
      have hJ':Aside ((len:Int) - 1 - (k:Int)=(j:Int)):=hj
      have hjl':(j:Int)<(len:Int):=by omega
      clear hj
      gi_wp2
      refine hR.mono ?_
      rintro e W3 (⟨rfl,hJ3,hk3⟩ | ⟨rfl,hJx3⟩)
      · gi_wp2
        go_roundw
        case rel=>exact ⟨k+1,by omega,by have:=hJ'.out;congr 1;omega,by rw [z6u,hbk];exact hJ3,hnx.t hk3⟩
        case measure=>simp [intOf]
      · gi_wp2
        refine bodyPost_ret (results_none rfl _ _ _) rfl ?_
        exact ⟨⟨_,rfl⟩,.inr ⟨_,⟨k+1,by omega,by rw [z6u,hbk]⟩,hJx3⟩⟩
    · obtain rfl:k=len:=by omega
      rw [show (k:Int) - 1 - (k:Int) = -1 by omega]
      gi_wp2
      go_end0
      exact ⟨⟨_,rfl⟩,.inl ⟨_,rfl,hJs⟩⟩
set_option maxHeartbeats 1000000 in
theorem z8t (F:Fence) (n:Nat) (hF:F.fn 147) (hro:F.round=none) (a:Option Addr) (len cap:Nat) (w:World):
    CallsIn F n Tryz.prog 147 #[.slice a len cap] w fun e w'=>e=.returned (.func (.func 185) #[] #[.pointer (some ⟨w.heap.size,0,none⟩)])∧w'=w.alloc (.cells #[.slice a len cap] 196):=by
  refine callsIn_of_wp Tryz.func147 rfl hF ?_ hro
  simp only [Tryz.ntmps147,List.size_toArray,List.length_cons,List.length_nil,Nat.reduceAdd,Nat.reduceSub,Array.replicate_succ,Array.replicate_zero,List.push_toArray,List.append_toArray,List.nil_append,List.cons_append]
  gi_wp2
  go_ret
  exact ⟨rfl,rfl⟩
theorem z68 (F:Fence) (n:Nat) (hF:F.fn 185) (hro:F.round=none) (hn:1≤n) (Bs n₀ b len cap:Nat) (f:Nat→Fin 64) (hreach:len≤64) (hb:b<n₀) (w:World) (hBs:Bs<w.heap.size) (hn₀:n₀≤w.heap.size)
    (hc:w.cell? ⟨Bs,0,none⟩=some (.slice (some ⟨b,0,none⟩) len cap)) (hI:∀ j,j<len→w.cell? ⟨b,j,none⟩=some (.int .i64 ((f j).val:Int))):
    SeqStopsK F n Tryz.prog 185 #[.pointer (some ⟨Bs,0,none⟩)] (fun x:Nat × Fin 64=>#[Value.int .i64 (x.1:Int),Value.int .i64 (x.2.val:Int)]) (KB n₀ Bs) (fun ys=>ys=UPTO (BACK len f) len)
      (fun pre=>∃ k,k≤len∧pre=UPTO (BACK len f) k) len w:=fun l J Jx W hW _ _ hY h0=>
  z7o F n hF hro hn l Bs n₀ b len cap f hreach hb J Jx hY W ((hW.cell (p:=⟨Bs,0,none⟩) hBs).trans hc) (fun j hj=>(hW.cell (p:=⟨b,j,none⟩) (by show b<_;omega)).trans (hI j hj)) h0
end Go.Proofs.YthdpkaiieomdoaaGreatDoor

namespace Go.Proofs.YthdpkaiieomdoaaGreatDoor
open Go.RowKit Go.Shelf
attribute [local go_sem] Oper.semAt_some
def z0h (l:List Nat):List Value:=l.map fun (x:Nat)=>Value.int .u64 (x:Int)
theorem z2g (l:List Nat) (x:Nat):z0h (l ++ [x])=z0h l ++ [.int .u64 (x:Int)]:=by simp [z0h]
theorem z1w:(Tryz.prog.info? 24).map (fun i=>(i.zero,i.size,i.bytes))=some (some (.int .u64 0),1,8):=by kernel_rfl
theorem zcJ (n:Nat) (hn:n≤64) (w:World):∃ cur:Array Value,cur.size=n∧(Instr.makeSlice 81 (.int .i64 0) (.int .i64 (n:Int))).run Tryz.prog w=.ok (.slice (some ⟨w.heap.size,0,none⟩) 0 n) (w.alloc (.cells cur 24)):=by
  obtain ⟨i,hi,hz,hs1,hby⟩:=info_parts z1w
  have h:=run_make (P:=Tryz.prog) w 81 24 i (.int .u64 0) Tryz.underlying81 hi hz .i64 .i64 0 n (by omega) (by omega) (by rw [hby];omega) (by omega)
  refine ⟨_,?_,h⟩
  rw [size_madeCells,hs1]
  omega
def HTS (pre:List (Nat × Fin 64)):List Nat:=pre.map fun x=>x.2.val
theorem zcK (pre:List (Nat × Fin 64)) (x:Nat × Fin 64):HTS (pre ++ [x])=HTS pre ++ [x.2.val]:=by simp [HTS]
theorem zbj (l:List Nat):(ST l).2.length=l.length:=by
  have key:∀ (l:List Nat) (s:Nat × List Nat),(l.foldl (fun s h=>((s.1+TREE h) % 2 ^ 64,s.2 ++ [((s.1+TREE h) % 2 ^ 64+(2 ^ 64 - 1)) % 2 ^ 64])) s).2.length=s.2.length+l.length:=by
    intro l
    induction l with
    | nil=>intro s;simp
    | cons h l ih=>
      intro s
      rw [List.foldl_cons,ih]
      simp
      omega
  have:=key l (0,[])
  simpa [ST] using this
theorem zfz (l:List Nat):(ST l).1<2 ^ 64:=by
  rcases List.eq_nil_or_concat l with rfl | ⟨i,x,rfl⟩
  · simp [ST]
  · rw [List.concat_eq_append,z67]
    exact Nat.mod_lt _ (by decide)
theorem zcL (X:Nat) (f:Nat→Fin 64) (hf:∀ j,j<POP X→(f j).val=z3t X j):HTS (UPTO (BACK (POP X) f) (POP X))=(z0s X).reverse:=by
  apply List.ext_getElem?
  intro j
  by_cases hj:j<POP X
  · rw [List.getElem?_reverse (by rw [z0E];exact hj),z0E,z5e (by omega),← hf _ (by omega)]
    simp [HTS,UPTO,BACK,hj]
  · rw [List.getElem?_eq_none (by simp [HTS,UPTO];omega),List.getElem?_eq_none (by rw [List.length_reverse,z0E];omega)]
theorem z0f {w:World} {base base':Nat} {t:TypeId} {s:Nat} {v:Value} {n:Nat} {xs:List Value} (h:w.ownsRow base t s v n xs) (hb:base'≤base):w.ownsRow base' t s v n xs:=
  ⟨h.1,h.2.imp id fun ⟨g,c,cur,a,b,r⟩=>⟨g,c,cur,a,Nat.le_trans hb b,r⟩⟩
set_option maxRecDepth 100000 in
set_option maxHeartbeats 2000000 in
theorem z7p (X:Nat) (hX:X≤4611686018427387904) (w:World) (hT:Tabled w) (h0:0<w.heap.size):Calls Tryz.prog 103 #[.int .u64 (X:Int)] w fun e w'=>
    ∃ g cap,e=.returned (.slice (some ⟨g,0,none⟩) (PC X) cap)∧w'.ownsRow w.heap.size 24 1 (.slice (some ⟨g,0,none⟩) (PC X) cap) (PC X) (z0h (z3u X))∧Below w.heap.size w w':=by
  obtain ⟨i0,hi,hz0,hz1,hz2⟩:=info_parts z1w
  have cb:=ze5 X (by omega) w hT h0
  have hle:=z5z X
  obtain ⟨f,hf⟩:∃ f:Nat→Fin 64,∀ j,j<POP X→(f j).val=z3t X j:=⟨fun j=>if h:j<POP X then ⟨z3t X j,by have:=zcG h;omega⟩ else 0,fun j hj=>by simp [hj]⟩
  have hba:=zcL X f hf
  have hplc:=fun (w':World) (base g n cap:Nat) (h:w'.ownsRow base 3 1 (.slice (some ⟨g,0,none⟩) n cap) n (z0V (z0s X)))=>zbf h
  have hpc:POP X=PC X:=zb3 (by omega)
  generalize POP X=p at *
  obtain ⟨L,hL⟩:∃ L,z0V (z0s X)=L:=⟨_,rfl⟩
  simp only [hL] at hplc cb
  have HA:Aside (HTS (UPTO (BACK p f) p)=(z0s X).reverse∧p=PC X∧X≤4611686018427387904):=⟨hba,hpc,hX⟩
  clear hba hpc hX hL hT h0
  have hd:¬ (4611686018427387904:Int)<(X:Int):=by have:=HA.out.2.2;omega
  refine (callsIn_wide (n:=5)).1 ?_
  refine callsIn_of_wp_marks Tryz.func103 rfl trivial ?_ rfl
  simp only [Tryz.ntmps103,List.size_toArray,List.length_cons,List.length_nil,Nat.reduceAdd,Nat.reduceSub,Array.replicate_succ,Array.replicate_zero,List.push_toArray,List.append_toArray,List.nil_append,List.cons_append]
  gi_wp2_with fail
  refine ⟨trivial,(callsIn_wide.2 cb).mono ?_⟩
  rintro e w1 ⟨g,cap,rfl,hrow,hg,hb⟩
  clear cb
  obtain ⟨cur,hcs,hmk⟩:=zcJ p hle w1
  gi_wp2_with fail
  refine ⟨trivial,(z8t Fence.wide 4 trivial rfl _ _ _ _).mono ?_⟩
  rintro e w2 ⟨rfl,rfl⟩
  obtain ⟨s1,hs1⟩:∃ s1,w1.heap.size=s1:=⟨_,rfl⟩
  have bO:=Boxed.new (w1.alloc (.cells cur 24)) 81 (.slice (some ⟨w1.heap.size,0,none⟩) 0 p)
  have bM:=Boxed.new ((w1.alloc (.cells cur 24)).alloc (.cells #[.slice (some ⟨w1.heap.size,0,none⟩) 0 p] 81)) 24 (.int .u64 0)
  have bN:=Boxed.new (((w1.alloc (.cells cur 24)).alloc (.cells #[.slice (some ⟨w1.heap.size,0,none⟩) 0 p] 81)).alloc (.cells #[.int .u64 0] 24)) 196 (.slice (some ⟨g,0,none⟩) p cap)
  have hr0:(w1.alloc (.cells cur 24)).ownsRow s1 24 1 (.slice (some ⟨s1,0,none⟩) 0 p) 0 []:=by
    rw [← hs1]
    exact World.ownsRow_made w1 cur p (Nat.le_refl _) (by simp only [maxLen];omega) (by rw [hcs];omega)
  simp only [World.size_alloc,hs1] at bO bM bN ⊢
  have bO:=(bO.alloc (.cells #[.int .u64 0] 24)).alloc (.cells #[.slice (some ⟨g,0,none⟩) p cap] 196)
  have bM:=bM.alloc (.cells #[.slice (some ⟨g,0,none⟩) p cap] 196)
  have hr0:=((hr0.alloc (.cells #[.slice (some ⟨s1,0,none⟩) 0 p] 81)).alloc (.cells #[.int .u64 0] 24)).alloc (.cells #[.slice (some ⟨g,0,none⟩) p cap] 196)
  have hB1:Below s1 w1 ((((w1.alloc (.cells cur 24)).alloc (.cells #[.slice (some ⟨s1,0,none⟩) 0 p] 81)).alloc (.cells #[.int .u64 0] 24)).alloc (.cells #[.slice (some ⟨g,0,none⟩) p cap] 196)):=
    ((((Below.refl _ w1).alloc (by omega) _).alloc (by simp;omega) _).alloc (by simp;omega) _).alloc (by simp;omega) _
  have hgs:g<s1:=by omega
  have hcg:∀ j,j<p→w1.cell? ⟨g,j,none⟩=some (.int .i64 ((f j).val:Int)):=fun j hj=>by rw [hf j hj];exact hplc _ _ _ _ _ hrow j hj
  have hsz:((((w1.alloc (.cells cur 24)).alloc (.cells #[.slice (some ⟨s1,0,none⟩) 0 p] 81)).alloc (.cells #[.int .u64 0] 24)).alloc (.cells #[.slice (some ⟨g,0,none⟩) p cap] 196)).heap.size=s1+4:=by simp;omega
  obtain ⟨W0,hW0⟩:∃ W0,((((w1.alloc (.cells cur 24)).alloc (.cells #[.slice (some ⟨s1,0,none⟩) 0 p] 81)).alloc (.cells #[.int .u64 0] 24)).alloc (.cells #[.slice (some ⟨g,0,none⟩) p cap] 196))=W0:=⟨_,rfl⟩
  rw [hW0] at bO bM bN hr0 hB1 hsz ⊢
  have hbw:Below w.heap.size w W0:=hb.trans (hB1.mono (by have:=hb.size;omega))
  clear hW0
  gi_wp2_with fail
  refine wpIn_rangeFunc_ownG rfl (by omega) (gf:=185) (lb:=#[.pointer (some ⟨s1+1+1+1,0,none⟩)]) rfl trivial (enters_of Tryz.func185 (by kernel_rfl) rfl)
    (z68 Fence.wide (5 - 1) trivial rfl (by omega) (s1+1+1+1) s1 g p cap f hle hgs W0 (by omega) (by omega) bN.cell (fun j hj=>(hB1.cell (p:=⟨g,j,none⟩) hgs).trans (hcg j hj)))
    KB.t (KB.b (by omega) (by omega)) (Below.refl _ _) (fun _=>rfl)
    (fun pre W=>((∃ v,Boxed W (s1+1) 81 v∧W.ownsRow s1 24 1 v pre.length (z0h (ST (HTS pre)).2)∧v=.slice (some ⟨s1,0,none⟩) pre.length p)∧Boxed W (s1+1+1) 24 (.int .u64 ((ST (HTS pre)).1:Int))∧Boxed W (s1+1+1+1) 196 (.slice (some ⟨g,0,none⟩) p cap))∧Below w.heap.size w W)
    (fun _ _ _=>False)
    (OwnFrom.and (OwnFrom.and (Own.from (holdsRow_own s1 (s1+1) 81 24 1 (fun pre=>pre.length) (fun pre=>z0h (ST (HTS pre)).2) (fun pre v=>v=.slice (some ⟨s1,0,none⟩) pre.length p)) _) (OwnFrom.and (Own.from (boxed_own _ _ _) _) (Own.from (boxed_own _ _ _) _))) (ownFrom_below (Nat.le_refl _) (by have:=hb.size;omega)))
    (fun _ _ _ _ _ hs _ _=>hs)
    ⟨⟨⟨_,bO,hr0,rfl⟩,bM,bN⟩,hbw⟩
    (fun x=>{tmps:=#[.int .u64 (X:Int),undef,.slice none 0 0,.slice (some ⟨g,0,none⟩) p cap,.pointer (some ⟨s1+1,0,none⟩),.pointer (some ⟨s1+1+1,0,none⟩),undef,.int .i64 (x.2.val:Int),.int .u64 (X:Int),.bool false,.int .u64 (X:Int),.slice (some ⟨g,0,none⟩) p cap,.slice (some ⟨g,0,none⟩) p cap,.int .i64 (p:Int),.slice (some ⟨s1,0,none⟩) 0 p,.slice (some ⟨g,0,none⟩) p cap,.func (.func 185) #[] #[.pointer (some ⟨s1+1+1+1,0,none⟩)],.int .i64 (x.1:Int),.int .i64 (x.2.val:Int),undef,undef,undef,undef,undef,undef,undef,undef,undef,undef],defers:=[]}) ?assign ?body ?done ?stop
  case assign=>
    intro l x W K hK
    gi_wp2
    exact hK
  case body=>
    rintro l pre x W ⟨⟨⟨v,bO,hrow,rfl⟩,bM,bN⟩,hB⟩ hlt
    have hsn:=z67 (HTS pre) x.2.val
    have hml:=zfz (HTS pre)
    have hsl:=zbj (HTS pre)
    rw [show (HTS pre).length=pre.length by simp [HTS]] at hsl
    obtain ⟨m,hm⟩:∃ m,(ST (HTS pre)).1=m:=⟨_,rfl⟩
    obtain ⟨ls,hls⟩:∃ ls,(ST (HTS pre)).2=ls:=⟨_,rfl⟩
    have ct:=fun w=>z4D x.2.val (by omega) w
    obtain ⟨t,ht⟩:∃ t,TREE x.2.val=t:=⟨_,rfl⟩
    rw [hm,hls,ht] at hsn
    rw [hm] at hml bM
    rw [hls] at hsl hrow
    rw [ht] at ct
    obtain ⟨m2,hm2⟩:∃ m2,(m+t) % 2 ^ 64=m2:=⟨_,rfl⟩
    obtain ⟨q,hq⟩:∃ q,(m2+(2 ^ 64 - 1)) % 2 ^ 64=q:=⟨_,rfl⟩
    rw [hm2,hq] at hsn
    have e1:IntKind.u64.wrap ((m:Int)+(t:Int))=(m2:Int):=by rw [z09];omega
    have e2:IntKind.u64.wrap ((m2:Int) - 1)=(q:Int):=by rw [z09];omega
    have R:Aside (ST (HTS (pre ++ [x]))=(m2,ls ++ [q])∧ls.length=pre.length∧pre.length<p):=⟨by rw [zcK];exact hsn,hsl,hlt⟩
    clear hsn hml hsl hlt hm hls ht hm2 hq
    have hc4:=bO.cell
    have hc5:=bM.cell
    have hf5:=bM.frozen
    have hmx:Tryz.prog.follows .mixedOrders=true:=by kernel_rfl
    clear hplc hf hcg hz0 hz2
    have hsW:s1+4≤W.heap.size:=by have:=bN.lt;omega
    obtain ⟨W5,hW5⟩:∃ W5,(W.setCell ⟨s1+1+1,0,none⟩ (.int .u64 (m2:Int))).drew=W5:=⟨_,rfl⟩
    have bO5:Boxed W5 (s1+1) 81 (.slice (some ⟨s1,0,none⟩) pre.length p):=by rw [← hW5];exact bO.other (by omega) _
    have bM5:Boxed W5 (s1+1+1) 24 (.int .u64 (m2:Int)):=by rw [← hW5];exact bM.set _
    have bN5:Boxed W5 (s1+1+1+1) 196 (.slice (some ⟨g,0,none⟩) p cap):=by rw [← hW5];exact bN.other (by omega) _
    have hrow5:W5.ownsRow s1 24 1 (.slice (some ⟨s1,0,none⟩) pre.length p) pre.length (z0h ls):=by rw [← hW5];exact (hrow.kept (grownBy_setCell' W (s1+1+1) (.int .u64 (m2:Int))) (.inr (by simp [Value.ownBlock];omega))).drew
    have hk5:KeepsOthers W W5:=by rw [← hW5];exact (KeepsOthers.setCell _ _ _).trans (KeepsOthers.drew _)
    have hb5:Below s1 W W5:=by rw [← hW5];exact ((Below.refl s1 W).setCell (p:=⟨s1+1+1,0,none⟩) (by show s1≤s1+1+1;omega) _).drew
    have hs5:s1+4≤W5.heap.size:=by have:=bN5.lt;omega
    have hcN:W.cell? ⟨s1+1+1+1,0,none⟩=some (.slice (some ⟨g,0,none⟩) p cap):=bN.cell
    gi_wp2
    gi_region_with_o (refine ⟨trivial,?_⟩;gi_at_call 142;refine (CallsIn.inRound l (callsIn_wide.2 (ct _))).mono ?_;rintro e w' ⟨rfl,rfl⟩)
    all_goals clear hc4 hc5 hf5 bO bM bN hrow ct
    all_goals have hc4:=bO5.cell
    all_goals have hc5:=bM5.cell
    all_goals gi_wp2_with (gi_at_builtin;refine wpListIn_append_fits _ rfl _ _ 81 rfl s1 24 i0 1 Tryz.underlying81 hi hz1 s1 pre.length p (z0h ls) rfl (hrow5.alloc _) ⟨W5.heap.size,0,none⟩ 1 1 [.int .u64 (q:Int)] rfl rfl (cell_one_new _ _ _) (by simp [Value.oneCell']) (by have:=R.out.2.2;omega) ?_;intro w1' hown' hgrow;obtain ⟨hv1,hv2,hr2,hk2,hb2⟩:=bO5.appended (by decide) hrow5 (by omega) (by omega) hown' hgrow;have hc1:=hv1.cell;have hf1:=hv1.frozen)
    all_goals have bN6:=((bN5.alloc (.cells #[.int .u64 (q:Int)] 24)).kept hgrow (by simp;omega)).other (B':=s1+1) (by omega) (.slice (some ⟨s1,0,none⟩) (pre.length+1) p)
    all_goals have bM6:=((bM5.alloc (.cells #[.int .u64 (q:Int)] 24)).kept hgrow (by simp;omega)).other (B':=s1+1) (by omega) (.slice (some ⟨s1,0,none⟩) (pre.length+1) p)
    all_goals obtain ⟨r1,r2,r3⟩:=R.out
    all_goals refine ⟨(hk5.trans hk2).from _,⟨hb5.trans hb2,bN6.cell.trans hcN.symm⟩,⟨⟨_,hv2,?_,by simp⟩,?_,bN6⟩,hB.trans ((hb5.trans hb2).mono (by have:=hb.size;omega))⟩
    all_goals rw [r1]
    all_goals first | exact bM6 | (rw [z2g,List.length_append];exact hr2)
  case done=>
    rintro D ys W hD hys ⟨⟨⟨v,bO,hrow,rfl⟩,bM,bN⟩,hB⟩ hK
    have hc:=bO.cell
    gi_wp2
    refine ⟨by simp,.inl ⟨_,_,rfl,run_takeDeferred hK,?_⟩⟩
    have hys':ys=UPTO (BACK p f) p:=hys
    subst hys'
    obtain ⟨a1,a2,a3⟩:=HA.out
    have hl:(UPTO (BACK p f) p).length=p:=z4N _ _
    rw [hl,a1,← ze7,zf5 a3] at hrow
    refine ⟨_,results_tmp rfl _ _ _,s1,p,?_,?_,hB.trans (belowK_b (w:=w) (Nat.le_refl _) W D _ _ (by have:=hb.size;omega) hK rfl rfl)⟩
    · rw [← a2,hl]
      rfl
    · rw [← a2]
      exact ownsRow_putObj (z0f hrow (by have:=hb.size;omega)) _ hK rfl
  case stop=>
    rintro D c pre W _ _ h _
    exact h.elim
end Go.Proofs.YthdpkaiieomdoaaGreatDoor

namespace Go.Proofs.YthdpkaiieomdoaaGreatDoor
open Go.RowKit
theorem z9r {ops:Array Oper} {rest:List Oper} {o:Oper} {a:Act} {Q:Exit→Act→World→Prop} (w:World) (hgd:o.guard=none) (s x:Operand)
    (ho:o.op=.call {callee:=.builtin .append,args:=#[s,x],argTypes:=#[81,81]})
    (base:Nat) (v:Value) (n:Nat) (xs:List Nat) (hs:a.eval s=v) (hown:w.ownsRow base 24 1 v n (z0h xs))
    (b c:Nat) (y:Nat) (hx:a.eval x=.slice (some ⟨b,0,none⟩) 1 c) (hc:w.cell? ⟨b,0,none⟩=some (.int .u64 (y:Int)))
    (hb:n≤1000) (hbase:base≤w.heap.size)
    (h:∀ g cap w',w'.ownsRow base 24 1 (.slice (some ⟨g,0,none⟩) (n+1) cap) (n+1) (z0h (xs ++ [y]))→w.grownBy w' v.ownBlock→g<w'.heap.size→wpList Tryz.prog ops Q rest (a.put o.dst (.slice (some ⟨g,0,none⟩) (n+1) cap)) w'):wpList Tryz.prog ops Q (o :: rest) a w:=by
  obtain ⟨i,hi,hz,hs1,hby⟩:=info_parts z1w
  refine wpList_append_lies w hgd s x 81 ho base 24 i (.int .u64 0) 1 8 Tryz.underlying81 hi hz hs1 hby rfl (by decide) v n (z0h xs) hs hown ⟨b,0,none⟩ 1 c [.int .u64 (y:Int)] hx rfl ?_ (fun u hu=>by simp at hu;subst hu;rfl) (by decide) (by simp only [maxLen];omega) (by omega) hbase w.heap.size rfl ?_
  · intro j u hj
    cases j with
    | zero=>
      simp only [List.getElem?_cons_zero,Option.some.injEq] at hj
      subst hj
      exact hc
    | succ j=>simp at hj
  · intro g cap w' h1 h2 _ h4
    rw [← z2g] at h1
    exact h g cap w' h1 h2 h4
end Go.Proofs.YthdpkaiieomdoaaGreatDoor

namespace Go.Proofs.YthdpkaiieomdoaaGreatDoor
open Go.RowKit
def z0b (l:List (Nat × Nat)):List Value:=l.flatMap fun x=>[Value.int .u8 (x.1:Int),Value.int .u64 (x.2:Int)]
theorem z8u (l:List (Nat × Nat)) (h k:Nat):z0b (l ++ [(h,k)])=z0b l ++ [Value.int .u8 (h:Int),Value.int .u64 (k:Int)]:=by simp [z0b]
theorem z47:∀ (l:List (Nat × Nat)) (j h k:Nat),l[j]?=some (h,k)→(z0b l)[j*2]?=some (.int .u8 (h:Int))∧(z0b l)[j*2+1]?=some (.int .u64 (k:Int))
  | [],j,h,k,e=>by simp at e
  | x :: l,0,h,k,e=>by
    simp at e
    subst e
    simp [z0b]
  | x :: l,j+1,h,k,e=>by
    have:=z47 l j h k (by simpa using e)
    have e1:(j+1)*2=j*2+1+1:=by omega
    simp only [z0b,List.flatMap_cons,List.cons_append,List.nil_append,e1,List.getElem?_cons_succ]
    exact this
theorem z6v:(Tryz.prog.info? 78).map (fun i=>(i.zero,i.size,i.bytes))=some (some (.agg #[.int .u8 0,.int .u64 0]),2,16):=by kernel_rfl
theorem zcM {ops:Array Oper} {rest:List Oper} {o:Oper} {a:Act} {Q:Exit→Act→World→Prop} (w:World) (hgd:o.guard=none) (s x:Operand)
    (ho:o.op=.call {callee:=.builtin .append,args:=#[s,x],argTypes:=#[73,73]})
    (base:Nat) (v:Value) (n:Nat) (xs:List (Nat × Nat)) (hs:a.eval s=v) (hown:w.ownsRow base 78 2 v n (z0b xs))
    (b c:Nat) (h k:Nat) (hx:a.eval x=.slice (some ⟨b,0,none⟩) 1 c) (hc0:w.cell? ⟨b,0,none⟩=some (.int .u8 (h:Int))) (hc1:w.cell? ⟨b,1,none⟩=some (.int .u64 (k:Int)))
    (hb:n≤1000) (hbase:base≤w.heap.size)
    (hh:∀ g cap w',w'.ownsRow base 78 2 (.slice (some ⟨g,0,none⟩) (n+1) cap) (n+1) (z0b (xs ++ [(h,k)]))→w.grownBy w' v.ownBlock→g<w'.heap.size→wpList Tryz.prog ops Q rest (a.put o.dst (.slice (some ⟨g,0,none⟩) (n+1) cap)) w'):wpList Tryz.prog ops Q (o :: rest) a w:=by
  obtain ⟨i,hi,hz,hs1,hby⟩:=info_parts z6v
  refine wpList_append_lies w hgd s x 73 ho base 78 i _ 2 16 Tryz.underlying73 hi hz hs1 hby rfl (by decide) v n (z0b xs) hs hown ⟨b,0,none⟩ 1 c [.int .u8 (h:Int),.int .u64 (k:Int)] hx rfl ?_ (fun u hu=>by simp at hu;rcases hu with rfl | rfl <;> rfl) (by decide) (by simp only [maxLen];omega) (by omega) hbase w.heap.size rfl ?_
  · intro j u hj
    match j,hj with
    | 0,hj=>
      simp only [List.getElem?_cons_zero,Option.some.injEq] at hj
      subst hj
      exact hc0
    | 1,hj=>
      simp only [List.getElem?_cons_succ,List.getElem?_cons_zero,Option.some.injEq] at hj
      subst hj
      exact hc1
    | j+2,hj=>simp at hj
  · intro g cap w' h1 h2 _ h4
    rw [← z8u] at h1
    exact hh g cap w' h1 h2 h4
def Spots (w:World) (a:Option Addr) (l:List (Nat × Nat)):Prop:=0<l.length→∃ g,a=some ⟨g,0,none⟩∧g<w.heap.size∧∀ (j h k:Nat),l[j]?=some (h,k)→w.cell? ⟨g,j*2,none⟩=some (.int .u8 (h:Int))∧w.cell? ⟨g,j*2+1,none⟩=some (.int .u64 (k:Int))
theorem Spots.below {w w':World} {a:Option Addr} {l:List (Nat × Nat)} (h:Spots w a l) (hb:Below w.heap.size w w'):Spots w' a l:=fun h0=>by
  obtain ⟨g,e,hg,hc⟩:=h h0
  exact ⟨g,e,Nat.lt_of_lt_of_le hg hb.size,fun j x y he=>⟨(hb.cell (p:=⟨g,j*2,none⟩) hg).trans (hc j x y he).1,(hb.cell (p:=⟨g,j*2+1,none⟩) hg).trans (hc j x y he).2⟩⟩
theorem z6w {w:World} {base n:Nat} {v:Value} {l:List (Nat × Nat)} (hl:l.length=n) (h:w.ownsRow base 78 2 v n (z0b l)):∃ a cap,v=.slice a n cap∧Spots w a l:=by
  rcases h.2 with ⟨rfl,h0⟩ | ⟨g,cap,cur,rfl,hb,hg,r⟩
  · subst h0
    exact ⟨none,0,rfl,fun h=>by omega⟩
  · refine ⟨_,cap,rfl,fun h0=>⟨g,rfl,?_,fun j x y he=>?_⟩⟩
    · exact (Array.getElem?_eq_some_iff.1 hg).1
    · have hj:j<n:=by rw [← hl];exact (List.getElem?_eq_some_iff.1 he).1
      have h1:=z47 l j x y he
      exact ⟨(h.cellAt (j*2) (by omega)).trans h1.1,(h.cellAt (j*2+1) (by omega)).trans h1.2⟩
theorem z0v {w w':World} {base:Nat} {t:TypeId} {s:Nat} {v:Value} {n:Nat} {xs:List Value} (h:w.ownsRow base t s v n xs) (hb:Below w.heap.size w w'):w'.ownsRow base t s v n xs:=by
  refine ⟨h.1,h.2.imp id ?_⟩
  rintro ⟨g,c,cur,a,b,r,rest⟩
  exact ⟨g,c,cur,a,b,(hb.block g (Array.getElem?_eq_some_iff.1 r).1).trans r,rest⟩
end Go.Proofs.YthdpkaiieomdoaaGreatDoor

namespace Go.Proofs.YthdpkaiieomdoaaGreatDoor
open Go.RowKit
def Has (w:World) (g:Nat) (c:Array Value) (t:TypeId):Prop:=w.heap[g]?=some (.cells c t)
theorem Has.cell {w:World} {g:Nat} {c:Array Value} {t:TypeId} (h:Has w g c t) (i:Nat):w.cell? ⟨g,i,none⟩=c[i]?:=cell_of_row w g i c t _ h
theorem Has.lt {w:World} {g:Nat} {c:Array Value} {t:TypeId} (h:Has w g c t):g<w.heap.size:=(Array.getElem?_eq_some_iff.1 h).1
theorem Has.frozen {w:World} {g:Nat} {c:Array Value} {t:TypeId} (h:Has w g c t) (i:Nat):w.frozen? ⟨g,i,none⟩=false:=by
  have e:w.heap[g]?=some (.cells c t):=h
  simp [World.frozen?,e]
theorem Has.set {w:World} {g:Nat} {c:Array Value} {t:TypeId} (h:Has w g c t) (i:Nat) (v:Value):Has (w.setCell ⟨g,i,none⟩ v) g (c.setIfInBounds i v) t:=by
  have e:w.heap[g]?=some (.cells c t):=h
  unfold Has
  rw [setCell_eq_setRow w g i c t _ v e,setRow_heap w g c _ t _ e]
theorem Has.other {w:World} {g:Nat} {c:Array Value} {t:TypeId} (h:Has w g c t) {a:Addr} (ha:g≠a.block) (v:Value):Has (w.setCell a v) g c t:=by
  have e:w.heap[g]?=some (.cells c t):=h
  unfold Has
  rw [Below.heap_setCell w a v g ha,e]
theorem Has.below {B:Nat} {w w':World} {g:Nat} {c:Array Value} {t:TypeId} (h:Has w g c t) (hb:Below B w w') (hg:g<B):Has w' g c t:=(hb.block g hg).trans h
theorem Has.keep {w w':World} {g:Nat} {c:Array Value} {t:TypeId} (h:Has w g c t) (hb:Below w.heap.size w w'):Has w' g c t:=h.below hb h.lt
theorem Has.alloc {w:World} {g:Nat} {c:Array Value} {t:TypeId} (h:Has w g c t) (o:Obj):Has (w.alloc o) g c t:=by
  have e:w.heap[g]?=some (.cells c t):=h
  unfold Has
  rw [Below.heap_alloc w o g h.lt,e]
theorem Has.new (w:World) (c:Array Value) (t:TypeId):Has (w.alloc (.cells c t)) w.heap.size c t:=heap_alloc_new w _
theorem Has.at (w:World) (c:Array Value) (t:TypeId) {g:Nat} (hg:g=w.heap.size):Has (w.alloc (.cells c t)) g c t:=by subst hg;exact Has.new w c t
theorem Has.row {w:World} {g:Nat} {c:Array Value} {t:TypeId} (h:Has w g c t) (c':Array Value):Has (w.setRow g c') g c' t:=setRow_heap w g c c' t _ h
theorem Has.row_other {w:World} {g k:Nat} {c:Array Value} {t:TypeId} (h:Has w g c t) (hk:g≠k) (c':Array Value):Has (w.setRow k c') g c t:=by
  have e:w.heap[g]?=some (.cells c t):=h
  unfold Has
  rw [setRow_other w k g c' hk,e]
theorem Has.drewN {w:World} {g:Nat} {c:Array Value} {t:TypeId} (h:Has w g c t) (n:Nat):Has (w.drewN n) g c t:=h
theorem z9s {w:World} {b i j:Nat} (h:i≠j) (v:Value):(w.setCell ⟨b,i,none⟩ v).cell? ⟨b,j,none⟩=w.cell? ⟨b,j,none⟩:=World.cell?_setCell_other w _ _ v (fun e=>h (congrArg Addr.off e))
theorem z04 {B g:Nat} {w0 w:World} (hb:Below B w0 w) (hBg:B≤g) (cs:Array Value):Below B w0 (w.setRow g cs):=
  ⟨hb.os,hb.tape,hb.output,by have:=hb.size;simpa [World.setRow] using this,fun k hk=>by rw [setRow_other w g k cs (by omega)];exact hb.block k hk⟩
end Go.Proofs.YthdpkaiieomdoaaGreatDoor

namespace Go.Proofs.YthdpkaiieomdoaaGreatDoor
open Go.RowKit Go.Maps
set_option maxRecDepth 100000
theorem zcN:laidOutB Tryz.prog=true:=by kernel_rfl
theorem z9t:(78:TypeId)<Tryz.prog.types.size:=of_decide_eq_true (by kernel_rfl)
theorem zcO:(match Tryz.prog.underlying 78 with | some (.array _ _) | some (.struct _)=>true | _=>false)=true:=by rw [Tryz.underlying78]
theorem law:Keyed Tryz.prog 78:=Keyed.of_law (deep_law_laid zcN (m:=2) (by omega) z9t (by kernel_rfl) zcO)
def KL (h k:Nat):Lit:=.string (keyBytes [.int .u8 (h:Int),.int .u64 (k:Int)])
theorem z48 {h k:Nat} (hh:h<256) (hk:k<2 ^ 64):keyOf Tryz.prog 78 (SPOT h k)=some (KL h k):=by
  have w0:(Lit.int .u8 (h:Int)).wf=true:=WalkArith.wf_u8 (by omega)
  have w1:(Lit.int .u64 (k:Int)).wf=true:=WalkArith.wf_u64 (by omega)
  have c3:Tryz.prog.cellsOf 78=2:=by kernel_rfl
  have c1:Tryz.prog.cellsOf 5=1:=by kernel_rfl
  have c2:Tryz.prog.cellsOf 24=1:=by kernel_rfl
  have ht:Tryz.prog.keyType 78=true:=by kernel_rfl
  have hf:(SPOT h k).formed Tryz.prog 78=true:=by simp [Value.formed,Tryz.underlying78,c3]
  obtain ⟨m,hm⟩:∃ m,Tryz.prog.types.size=m+1:=⟨Tryz.prog.types.size - 1,(Nat.succ_pred_eq_of_pos (Nat.lt_of_le_of_lt (Nat.zero_le _) z9t)).symm⟩
  unfold keyOf
  simp only [Tryz.underlying78,ht,hf,hm]
  simp [Program.keyLits,Tryz.underlying78,Tryz.underlying5,Tryz.underlying24,c1,c2,c3,Value.cells,w0,w1,KL]
theorem zbk {h k h' k':Nat} (hh:h<256) (hk:k<2 ^ 64) (hh':h'<256) (hk':k'<2 ^ 64) (e:KL h k=KL h' k'):h=h'∧k=k':=by
  have h1:=z48 hh hk
  have h2:=z48 hh' hk'
  rw [← e] at h2
  have:=law.inj h1 h2
  simp at this
  omega
abbrev U64 (n:Nat):DataW Unit:=.lit (.int .u64 (n:Int))
def MapOk (D:DataW Unit) (m:Nat):Prop:=∀ h k,h<256→k<2 ^ 64→(Maps.has D (KL h k)=true↔Node h k∧PLC h k<m)∧(Node h k→PLC h k<m→D.atKey (KL h k) (U64 0)=U64 (PLC h k))
theorem Node.small {h k:Nat} (a:Node h k):h<256∧k<2 ^ 64:=⟨by have:=a.1;omega,by have:=a.index_lt;omega⟩
theorem MapOk.put {D:DataW Unit} {m h k:Nat} (hD:Maps.IsMap D) (hM:MapOk D m) (hN:Node h k) (hp:PLC h k=m):MapOk (D.put (KL h k) (U64 m)) (m+1):=by
  intro h' k' hh' hk'
  obtain ⟨hh,hk⟩:=hN.small
  have hkey:WideAt.IsKeyLit (KL h k):=law.key (z48 hh hk)
  by_cases e:KL h' k'=KL h k
  · obtain ⟨rfl,rfl⟩:=zbk hh' hk' hh hk e
    exact ⟨⟨fun _=>⟨hN,by omega⟩,fun _=>Maps.has_put_same hD hkey _⟩,fun _ _=>by rw [Maps.atKey_put_same hD hkey,hp]⟩
  · have hne:∀ _:Node h' k',PLC h' k'≠m:=fun hN' e2=>e (by obtain ⟨rfl,rfl⟩:=hN'.one hN (by omega);rfl)
    rw [Maps.has_put_other e,Maps.atKey_put_other e]
    obtain ⟨a,b⟩:=hM h' k' hh' hk'
    refine ⟨⟨fun h=>?_,fun h=>?_⟩,fun h1 h2=>b h1 (by have:=hne h1;omega)⟩
    · have:=a.1 h
      exact ⟨this.1,by omega⟩
    · exact a.2 ⟨h.1,by have:=hne h.1;omega⟩
def Placed (w:World) (b m:Nat):Prop:=∃ D:DataW Unit,w.ownsMap Tryz.prog 78 (plainElem Tryz.prog 24) b m D∧MapOk D m
theorem Placed.kept {w w':World} {b m:Nat} {row:Option Nat} (h:Placed w b m) (hg:w.grownBy w' row) (hne:some b≠row):Placed w' b m:=let ⟨D,h1,h2⟩:=h; ⟨D,h1.kept hg hne,h2⟩
theorem Placed.lt {w:World} {b m:Nat} (h:Placed w b m):b<w.heap.size:=let ⟨_,h1,_⟩:=h;h1.lt
theorem Placed.below {w w':World} {b m:Nat} (h:Placed w b m) (hb:Below w.heap.size w w'):Placed w' b m:=by
  have hlt:=h.lt
  obtain ⟨D,⟨es,clock,h1,r⟩,h2⟩:=h
  exact ⟨D,⟨es,clock,(hb.block b hlt).trans h1,r⟩,h2⟩
theorem Placed.alloc {w:World} {b m:Nat} (h:Placed w b m) (o:Obj):Placed (w.alloc o) b m:=h.below ((Below.refl _ _).alloc (Nat.le_refl _) _)
theorem Placed.setCell {w:World} {b m:Nat} (h:Placed w b m) {a:Addr} (ha:b≠a.block) (u:Value):Placed (w.setCell a u) b m:=let ⟨D,h1,h2⟩:=h; ⟨D,h1.setCell ha u,h2⟩
end Go.Proofs.YthdpkaiieomdoaaGreatDoor
