/- ClashAcross: part 3. -/
import Derived.RangeFuncBox
import Derived.RangeFuncLeaves
import Derived.RangeFuncCalls
import Derived.Shelf.Abstract
import Derived.Shelf.RegionOpen
import Derived.OwnWalkIn
import Derived.TacticsInMore
import Derived.LoopNIn
import Derived.LoopIn
import Derived.Maps.AppendAt
import Derived.RangeFuncNested
import Derived.Deep.WholeRow
import Derived.Laws.ResultCell
import Derived.Laws.Rows
import Derived.Laws.Tables
import Derived.Maps.OwnSet
import Derived.DeepKeys4
import Derived.Test.YtdggkbpabjgdfaaGreatDoorClashAcrossP2
set_option maxHeartbeats 2000000
namespace Go.Proofs.YtdggkbpabjgdfaaGreatDoor
open Go.RowKit Go.Shelf
attribute [local go_sem] Oper.semAt_some
def UPTO {α:Type} (f:Nat->α) (k:Nat):List α:=(List.range k).map f
theorem z2z {α:Type} (f:Nat->α) (k:Nat):UPTO f (k+1)=UPTO f k ++ [f k]:=by simp [UPTO,List.range_succ]
theorem z47 {α:Type} (f:Nat->α) (k:Nat):(UPTO f k).length=k:=by simp [UPTO]
def KB (n₀ Bs:Nat) (A B:World):Prop:=Below n₀ A B/\B.cell? ⟨Bs,0,none⟩=A.cell? ⟨Bs,0,none⟩
theorem KB.t {n₀ Bs:Nat} {A B C:World} (h:KB n₀ Bs A B) (k:KB n₀ Bs B C):KB n₀ Bs A C:=⟨h.1.trans k.1,k.2.trans h.2⟩
theorem KB.b {n₀ Bs:Nat} {w:World} (hn:n₀<=w.heap.size) (hB:Bs<w.heap.size) (W:World) (l:Nat) (o o':Obj) (hl:w.heap.size<=l) (h:W.heap[l]?=some o) (h1:o.isCells=false) (h2:o.isWalk=false):KB n₀ Bs W (W.putObj l o'):=
 ⟨belowK_b hn W l o o' hl h h1 h2,(belowK_b (Nat.le_refl w.heap.size) W l o o' hl h h1 h2).cell (p:=⟨Bs,0,none⟩) hB⟩
def BACK (len:Nat) (f:Nat->Fin 64) (j:Nat):Nat × Fin 64:=(len - 1 - j,f (len - 1 - j))
set_option maxRecDepth 100000 in
theorem za1 (F:Fence) (n:Nat) (hF:F.fn 131) (hro:F.round=none) (hn:1<=n) (l Bs n₀ b len cap:Nat) (f:Nat->Fin 64) (hreach:len<=64) (hb:b<n₀) (J Jx:List (Nat × Fin 64)->World->Prop)
    (hY:∀ pre x W,J pre W->pre.length<len->YieldAt F (n - 1) Tryz.prog l #[.int .i64 (x.1:Int),.int .i64 (x.2.val:Int)] W fun e W'=>
      (e=.returned (.bool true)/\J (pre ++ [x]) W'/\KB n₀ Bs W W')\/(e=.returned (.bool false)/\Jx (pre ++ [x]) W'))
    (W:World) (hBs:W.cell? ⟨Bs,0,none⟩=some (.slice (some ⟨b,0,none⟩) len cap)) (hc:∀ j,j<len->W.cell? ⟨b,j,none⟩=some (.int .i64 ((f j).val:Int))) (h0:J [] W):
    CallsIn F n Tryz.prog 131 #[.func (.yield l) #[] #[],.pointer (some ⟨Bs,0,none⟩)] W fun e W'=>(∃ v,e=.returned v)/\
      ((∃ ys,ys=UPTO (BACK len f) len/\J ys W')\/(∃ pre,(∃ k,k<=len/\pre=UPTO (BACK len f) k)/\Jx pre W')):=by
  refine callsIn_of_wp Tryz.func131 rfl hF ?_ hro;simp only [Tryz.ntmps131,List.size_toArray,List.length_cons,List.length_nil,Nat.reduceAdd,Nat.reduceSub,Array.replicate_succ,Array.replicate_zero,List.push_toArray,List.append_toArray,List.nil_append,List.cons_append];have e1:wrap64 ((len:Int) - 1)=(len:Int) - 1:=by unfold wrap64;omega
  gi_wp2
  gi_loopw [3] (fun i wr=>∃ k:Nat,k<=len/\i=.int .i64 ((len:Int) - 1 - (k:Int))/\J (UPTO (BACK len f) k) wr/\KB n₀ Bs W wr)
    (fun i _=>(intOf i+1).toNat)
  case atStart=>exact ⟨0,Nat.zero_le _,by simp,h0,Below.refl _ _,rfl⟩
  case round=>
    obtain ⟨k,hk,rfl,hJs,hnx⟩:=hrel;by_cases hlt:k<len
    · obtain ⟨j,hj⟩:∃ j:Nat,(len:Int) - 1 - (k:Int)=(j:Int):=⟨len - 1 - k,by omega⟩
      have hjl:j<len:=by omega
      have hbk:BACK len f k=(j,f j):=by
        unfold BACK;rw [show len - 1 - k=j by omega]
      have hcx:wr.cell? ⟨b,j,none⟩=some (.int .i64 ((f j).val:Int)):=(hnx.1.cell (p:=⟨b,j,none⟩) hb).trans (hc j hjl);have hcs:wr.cell? ⟨Bs,0,none⟩=some (.slice (some ⟨b,0,none⟩) len cap):=hnx.2.trans hBs;obtain ⟨fn,tmps,assign,body,hy,hR⟩:=hY _ (j,f j) wr hJs (by rw [z47];exact hlt);dsimp only at hy;rw [hj];have e2:wrap64 ((j:Int) - 1)=(j:Int) - 1:=by unfold wrap64;omega
      have hJ':Aside ((len:Int) - 1 - (k:Int)=(j:Int)):=hj;have hjl':(j:Int)<(len:Int):=by omega
      clear hj;gi_wp2
      refine hR.mono ?_;rintro e W3 (⟨rfl,hJ3,hk3⟩ | ⟨rfl,hJx3⟩)
      · gi_wp2
        go_roundw
        case rel=>exact ⟨k+1,by omega,by have:=hJ'.out;congr 1;omega,by rw [z2z,hbk];exact hJ3,hnx.t hk3⟩
        case measure=>simp [intOf]
      · gi_wp2
        refine bodyPost_ret (results_none rfl _ _ _) rfl ?_;exact ⟨⟨_,rfl⟩,.inr ⟨_,⟨k+1,by omega,by rw [z2z,hbk]⟩,hJx3⟩⟩
    · obtain rfl:k=len:=by omega
      rw [show (k:Int) - 1 - (k:Int) = -1 by omega];gi_wp2
      go_end0
      exact ⟨⟨_,rfl⟩,.inl ⟨_,rfl,hJs⟩⟩
theorem zbe (F:Fence) (n:Nat) (hF:F.fn 113) (hro:F.round=none) (a:Option Addr) (len cap:Nat) (w:World):
  CallsIn F n Tryz.prog 113 #[.slice a len cap] w fun e w'=>e=.returned (.func (.func 131) #[] #[.pointer (some ⟨w.heap.size,0,none⟩)])/\w'=w.alloc (.cells #[.slice a len cap] 149):=by
 refine callsIn_of_wp Tryz.func113 rfl hF ?_ hro;simp only [Tryz.ntmps113,List.size_toArray,List.length_cons,List.length_nil,Nat.reduceAdd,Nat.reduceSub,Array.replicate_succ,Array.replicate_zero,List.push_toArray,List.append_toArray,List.nil_append,List.cons_append];gi_wp2
 go_ret;exact ⟨rfl,rfl⟩
theorem z86 (F:Fence) (n:Nat) (hF:F.fn 131) (hro:F.round=none) (hn:1<=n) (Bs n₀ b len cap:Nat) (f:Nat->Fin 64) (hreach:len<=64) (hb:b<n₀) (w:World) (hBs:Bs<w.heap.size) (hn₀:n₀<=w.heap.size)
  (hc:w.cell? ⟨Bs,0,none⟩=some (.slice (some ⟨b,0,none⟩) len cap)) (hI:∀ j,j<len->w.cell? ⟨b,j,none⟩=some (.int .i64 ((f j).val:Int))):
  SeqStopsK F n Tryz.prog 131 #[.pointer (some ⟨Bs,0,none⟩)] (fun x:Nat × Fin 64=>#[Value.int .i64 (x.1:Int),Value.int .i64 (x.2.val:Int)]) (KB n₀ Bs) (fun ys=>ys=UPTO (BACK len f) len)
   (fun pre=>∃ k,k<=len/\pre=UPTO (BACK len f) k) len w:=fun l J Jx W hW _ _ hY h0=>
 za1 F n hF hro hn l Bs n₀ b len cap f hreach hb J Jx hY W ((hW.cell (p:=⟨Bs,0,none⟩) hBs).trans hc) (fun j hj=>(hW.cell (p:=⟨b,j,none⟩) (by show b<_;omega)).trans (hI j hj)) h0
end Go.Proofs.YtdggkbpabjgdfaaGreatDoor

namespace Go.Proofs.YtdggkbpabjgdfaaGreatDoor
open Go.RowKit Go.Shelf
attribute [local go_sem] Oper.semAt_some
def z04 (l:List Nat):List Value:=l.map fun (x:Nat)=>Value.int .u64 (x:Int)
theorem z26 (l:List Nat) (x:Nat):z04 (l ++ [x])=z04 l ++ [.int .u64 (x:Int)]:=by simp [z04]
theorem z2w:(Tryz.prog.info? 22).map (fun i=>(i.zero,i.size,i.bytes))=some (some (.int .u64 0),1,8):=by kernel_rfl
theorem za2 (n:Nat) (hn:n<=64) (w:World):∃ cur:Array Value,cur.size=n/\(Instr.makeSlice 86 (.int .i64 0) (.int .i64 (n:Int))).run Tryz.prog w=.ok (.slice (some ⟨w.heap.size,0,none⟩) 0 n) (w.alloc (.cells cur 22)):=by
 obtain ⟨i,hi,hz,hs1,hby⟩:=info_parts z2w;have h:=run_make (P:=Tryz.prog) w 86 22 i (.int .u64 0) Tryz.underlying86 hi hz .i64 .i64 0 n (by omega) (by omega) (by rw [hby];omega) (by omega);refine ⟨_,?_,h⟩;rw [size_madeCells,hs1];omega
def HTS (pre:List (Nat × Fin 64)):List Nat:=pre.map fun x=>x.2.val
theorem zg5 (pre:List (Nat × Fin 64)) (x:Nat × Fin 64):HTS (pre ++ [x])=HTS pre ++ [x.2.val]:=by simp [HTS]
theorem zek (l:List Nat):(ST l).2.length=l.length:=by
 have key:∀ (l:List Nat) (s:Nat × List Nat),(l.foldl (fun s h=>((s.1+TREE h) % 2 ^ 64,s.2 ++ [((s.1+TREE h) % 2 ^ 64+(2 ^ 64 - 1)) % 2 ^ 64])) s).2.length=s.2.length+l.length:=by
  intro l;induction l with
  | nil=>intro s;simp
  | cons h l ih=>
    intro s;rw [List.foldl_cons,ih];simp;omega
 have:=key l (0,[]);simpa [ST] using this
theorem zje (l:List Nat):(ST l).1<2 ^ 64:=by
 rcases List.eq_nil_or_concat l with rfl | ⟨i,x,rfl⟩
 ·simp [ST]
 ·rw [List.concat_eq_append,z84]
  exact Nat.mod_lt _ (by decide)
theorem zg6 (X:Nat) (f:Nat->Fin 64) (hf:∀ j,j<POP X->(f j).val=z4x X j):HTS (UPTO (BACK (POP X) f) (POP X))=(z0K X).reverse:=by
 apply List.ext_getElem?;intro j;by_cases hj:j<POP X
 ·rw [List.getElem?_reverse (by rw [z12];exact hj),z12,z6B (by omega),<-hf _ (by omega)]
  simp [HTS,UPTO,BACK,hj]
 ·rw [List.getElem?_eq_none (by simp [HTS,UPTO];omega),List.getElem?_eq_none (by rw [List.length_reverse,z12];omega)]
theorem z0q {w:World} {base base':Nat} {t:TypeId} {s:Nat} {v:Value} {n:Nat} {xs:List Value} (h:w.ownsRow base t s v n xs) (hb:base'<=base):w.ownsRow base' t s v n xs:=
 ⟨h.1,h.2.imp id fun ⟨g,c,cur,a,b,r⟩=>⟨g,c,cur,a,Nat.le_trans hb b,r⟩⟩
set_option maxRecDepth 100000 in
theorem z6C (X:Nat) (hX:X<=4611686018427387904) (w:World) (hT:Tabled w) (h0:0<w.heap.size):Calls Tryz.prog 87 #[.int .u64 (X:Int)] w fun e w'=>
  ∃ g cap,e=.returned (.slice (some ⟨g,0,none⟩) (PC X) cap)/\w'.ownsRow w.heap.size 22 1 (.slice (some ⟨g,0,none⟩) (PC X) cap) (PC X) (z04 (z1h X))/\Below w.heap.size w w':=by
 obtain ⟨i0,hi,hz0,hz1,hz2⟩:=info_parts z2w;have cb:=zhC X (by omega) w hT h0;have hle:=z75 X;obtain ⟨f,hf⟩:∃ f:Nat->Fin 64,∀ j,j<POP X->(f j).val=z4x X j:=⟨fun j=>if h:j<POP X then ⟨z4x X j,by have:=zg0 h;omega⟩ else 0,fun j hj=>by simp [hj]⟩
 have hba:=zg6 X f hf;have hplc:=fun (w':World) (base g n cap:Nat) (h:w'.ownsRow base 3 1 (.slice (some ⟨g,0,none⟩) n cap) n (z1j (z0K X)))=>zef h;have hpc:POP X=PC X:=z5e (by omega);generalize POP X=p at *
 obtain ⟨L,hL⟩:∃ L,z1j (z0K X)=L:=⟨_,rfl⟩
 simp only [hL] at hplc cb;have HA:Aside (HTS (UPTO (BACK p f) p)=(z0K X).reverse/\p=PC X/\X<=4611686018427387904):=⟨hba,hpc,hX⟩
 clear hba hpc hX hL hT h0;have hd:¬ (4611686018427387904:Int)<(X:Int):=by have:=HA.out.2.2;omega
 refine (callsIn_wide (n:=5)).1 ?_;refine callsIn_of_wp_marks Tryz.func87 rfl trivial ?_ rfl;simp only [Tryz.ntmps87,List.size_toArray,List.length_cons,List.length_nil,Nat.reduceAdd,Nat.reduceSub,Array.replicate_succ,Array.replicate_zero,List.push_toArray,List.append_toArray,List.nil_append,List.cons_append];gi_wp2_with fail
 refine ⟨trivial,(callsIn_wide.2 cb).mono ?_⟩;rintro e w1 ⟨g,cap,rfl,hrow,hg,hb⟩;clear cb;obtain ⟨cur,hcs,hmk⟩:=za2 p hle w1;gi_wp2_with fail
 refine ⟨trivial,(zbe Fence.wide 4 trivial rfl _ _ _ _).mono ?_⟩;rintro e w2 ⟨rfl,rfl⟩;obtain ⟨s1,hs1⟩:∃ s1,w1.heap.size=s1:=⟨_,rfl⟩
 have bO:=Boxed.new (w1.alloc (.cells cur 22)) 86 (.slice (some ⟨w1.heap.size,0,none⟩) 0 p);have bM:=Boxed.new ((w1.alloc (.cells cur 22)).alloc (.cells #[.slice (some ⟨w1.heap.size,0,none⟩) 0 p] 86)) 22 (.int .u64 0);have bN:=Boxed.new (((w1.alloc (.cells cur 22)).alloc (.cells #[.slice (some ⟨w1.heap.size,0,none⟩) 0 p] 86)).alloc (.cells #[.int .u64 0] 22)) 149 (.slice (some ⟨g,0,none⟩) p cap)
 have hr0:(w1.alloc (.cells cur 22)).ownsRow s1 22 1 (.slice (some ⟨s1,0,none⟩) 0 p) 0 []:=by
  rw [<-hs1];exact World.ownsRow_made w1 cur p (Nat.le_refl _) (by simp only [maxLen];omega) (by rw [hcs];omega)
 simp only [World.size_alloc,hs1] at bO bM bN ⊢;have bO:=(bO.alloc (.cells #[.int .u64 0] 22)).alloc (.cells #[.slice (some ⟨g,0,none⟩) p cap] 149);have bM:=bM.alloc (.cells #[.slice (some ⟨g,0,none⟩) p cap] 149);have hr0:=((hr0.alloc (.cells #[.slice (some ⟨s1,0,none⟩) 0 p] 86)).alloc (.cells #[.int .u64 0] 22)).alloc (.cells #[.slice (some ⟨g,0,none⟩) p cap] 149)
 have hB1:Below s1 w1 ((((w1.alloc (.cells cur 22)).alloc (.cells #[.slice (some ⟨s1,0,none⟩) 0 p] 86)).alloc (.cells #[.int .u64 0] 22)).alloc (.cells #[.slice (some ⟨g,0,none⟩) p cap] 149)):=
  ((((Below.refl _ w1).alloc (by omega) _).alloc (by simp;omega) _).alloc (by simp;omega) _).alloc (by simp;omega) _
 have hgs:g<s1:=by omega
 have hcg:∀ j,j<p->w1.cell? ⟨g,j,none⟩=some (.int .i64 ((f j).val:Int)):=fun j hj=>by rw [hf j hj];exact hplc _ _ _ _ _ hrow j hj
 have hsz:((((w1.alloc (.cells cur 22)).alloc (.cells #[.slice (some ⟨s1,0,none⟩) 0 p] 86)).alloc (.cells #[.int .u64 0] 22)).alloc (.cells #[.slice (some ⟨g,0,none⟩) p cap] 149)).heap.size=s1+4:=by simp;omega
 obtain ⟨W0,hW0⟩:∃ W0,((((w1.alloc (.cells cur 22)).alloc (.cells #[.slice (some ⟨s1,0,none⟩) 0 p] 86)).alloc (.cells #[.int .u64 0] 22)).alloc (.cells #[.slice (some ⟨g,0,none⟩) p cap] 149))=W0:=⟨_,rfl⟩
 rw [hW0] at bO bM bN hr0 hB1 hsz ⊢;have hbw:Below w.heap.size w W0:=hb.trans (hB1.mono (by have:=hb.size;omega));clear hW0;gi_wp2_with fail
 refine wpIn_rangeFunc_ownG rfl (by omega) (gf:=131) (lb:=#[.pointer (some ⟨s1+1+1+1,0,none⟩)]) rfl trivial (enters_of Tryz.func131 (by kernel_rfl) rfl)
  (z86 Fence.wide (5 - 1) trivial rfl (by omega) (s1+1+1+1) s1 g p cap f hle hgs W0 (by omega) (by omega) bN.cell (fun j hj=>(hB1.cell (p:=⟨g,j,none⟩) hgs).trans (hcg j hj)))
  KB.t (KB.b (by omega) (by omega)) (Below.refl _ _) (fun _=>rfl)
  (fun pre W=>((∃ v,Boxed W (s1+1) 86 v/\W.ownsRow s1 22 1 v pre.length (z04 (ST (HTS pre)).2)/\v=.slice (some ⟨s1,0,none⟩) pre.length p)/\Boxed W (s1+1+1) 22 (.int .u64 ((ST (HTS pre)).1:Int))/\Boxed W (s1+1+1+1) 149 (.slice (some ⟨g,0,none⟩) p cap))/\Below w.heap.size w W)
  (fun _ _ _=>False)
  (OwnFrom.and (OwnFrom.and (Own.from (holdsRow_own s1 (s1+1) 86 22 1 (fun pre=>pre.length) (fun pre=>z04 (ST (HTS pre)).2) (fun pre v=>v=.slice (some ⟨s1,0,none⟩) pre.length p)) _) (OwnFrom.and (Own.from (boxed_own _ _ _) _) (Own.from (boxed_own _ _ _) _))) (ownFrom_below (Nat.le_refl _) (by have:=hb.size;omega)))
  (fun _ _ _ _ _ hs _ _=>hs)
  ⟨⟨⟨_,bO,hr0,rfl⟩,bM,bN⟩,hbw⟩
  (fun x=>{tmps:=#[.int .u64 (X:Int),undef,.slice none 0 0,.slice (some ⟨g,0,none⟩) p cap,.pointer (some ⟨s1+1,0,none⟩),.pointer (some ⟨s1+1+1,0,none⟩),undef,.int .i64 (x.2.val:Int),.int .u64 (X:Int),.bool false,.int .u64 (X:Int),.slice (some ⟨g,0,none⟩) p cap,.slice (some ⟨g,0,none⟩) p cap,.int .i64 (p:Int),.slice (some ⟨s1,0,none⟩) 0 p,.slice (some ⟨g,0,none⟩) p cap,.func (.func 131) #[] #[.pointer (some ⟨s1+1+1+1,0,none⟩)],.int .i64 (x.1:Int),.int .i64 (x.2.val:Int),undef,undef,undef,undef,undef,undef,undef,undef,undef,undef],defers:=[]}) ?assign ?body ?done ?stop
 case assign=>
  intro l x W K hK;gi_wp2
  exact hK
 case body=>
  rintro l pre x W ⟨⟨⟨v,bO,hrow,rfl⟩,bM,bN⟩,hB⟩ hlt;have hsn:=z84 (HTS pre) x.2.val;have hml:=zje (HTS pre);have hsl:=zek (HTS pre);rw [show (HTS pre).length=pre.length by simp [HTS]] at hsl;obtain ⟨m,hm⟩:∃ m,(ST (HTS pre)).1=m:=⟨_,rfl⟩
  obtain ⟨ls,hls⟩:∃ ls,(ST (HTS pre)).2=ls:=⟨_,rfl⟩
  have ct:=fun w=>z3s x.2.val (by omega) w;obtain ⟨t,ht⟩:∃ t,TREE x.2.val=t:=⟨_,rfl⟩
  rw [hm,hls,ht] at hsn;rw [hm] at hml bM;rw [hls] at hsl hrow;rw [ht] at ct;obtain ⟨m2,hm2⟩:∃ m2,(m+t) % 2 ^ 64=m2:=⟨_,rfl⟩
  obtain ⟨q,hq⟩:∃ q,(m2+(2 ^ 64 - 1)) % 2 ^ 64=q:=⟨_,rfl⟩
  rw [hm2,hq] at hsn;have e1:IntKind.u64.wrap ((m:Int)+(t:Int))=(m2:Int):=by rw [z08];omega
  have e2:IntKind.u64.wrap ((m2:Int) - 1)=(q:Int):=by rw [z08];omega
  have R:Aside (ST (HTS (pre ++ [x]))=(m2,ls ++ [q])/\ls.length=pre.length/\pre.length<p):=⟨by rw [zg5];exact hsn,hsl,hlt⟩
  clear hsn hml hsl hlt hm hls ht hm2 hq;have hc4:=bO.cell;have hc5:=bM.cell;have hf5:=bM.frozen;have hmx:Tryz.prog.follows .mixedOrders=true:=by kernel_rfl
  clear hplc hf hcg hz0 hz2;have hsW:s1+4<=W.heap.size:=by have:=bN.lt;omega
  obtain ⟨W5,hW5⟩:∃ W5,(W.setCell ⟨s1+1+1,0,none⟩ (.int .u64 (m2:Int))).drew=W5:=⟨_,rfl⟩
  have bO5:Boxed W5 (s1+1) 86 (.slice (some ⟨s1,0,none⟩) pre.length p):=by rw [<-hW5];exact bO.other (by omega) _
  have bM5:Boxed W5 (s1+1+1) 22 (.int .u64 (m2:Int)):=by rw [<-hW5];exact bM.set _
  have bN5:Boxed W5 (s1+1+1+1) 149 (.slice (some ⟨g,0,none⟩) p cap):=by rw [<-hW5];exact bN.other (by omega) _
  have hrow5:W5.ownsRow s1 22 1 (.slice (some ⟨s1,0,none⟩) pre.length p) pre.length (z04 ls):=by rw [<-hW5];exact (hrow.kept (grownBy_setCell' W (s1+1+1) (.int .u64 (m2:Int))) (.inr (by simp [Value.ownBlock];omega))).drew
  have hk5:KeepsOthers W W5:=by rw [<-hW5];exact (KeepsOthers.setCell _ _ _).trans (KeepsOthers.drew _)
  have hb5:Below s1 W W5:=by rw [<-hW5];exact ((Below.refl s1 W).setCell (p:=⟨s1+1+1,0,none⟩) (by show s1<=s1+1+1;omega) _).drew
  have hs5:s1+4<=W5.heap.size:=by have:=bN5.lt;omega
  have hcN:W.cell? ⟨s1+1+1+1,0,none⟩=some (.slice (some ⟨g,0,none⟩) p cap):=bN.cell;gi_wp2
  gi_region_with_o (refine ⟨trivial,?_⟩;gi_at_call 109;refine (CallsIn.inRound l (callsIn_wide.2 (ct _))).mono ?_;rintro e w' ⟨rfl,rfl⟩)
  all_goals clear hc4 hc5 hf5 bO bM bN hrow ct
  all_goals have hc4:=bO5.cell
  all_goals have hc5:=bM5.cell
  all_goals gi_wp2_with (gi_at_builtin;refine wpListIn_append_fits _ rfl _ _ 86 rfl s1 22 i0 1 Tryz.underlying86 hi hz1 s1 pre.length p (z04 ls) rfl (hrow5.alloc _) ⟨W5.heap.size,0,none⟩ 1 1 [.int .u64 (q:Int)] rfl rfl (cell_one_new _ _ _) (by simp [Value.oneCell']) (by have:=R.out.2.2;omega) ?_;intro w1' hown' hgrow;obtain ⟨hv1,hv2,hr2,hk2,hb2⟩:=bO5.appended (by decide) hrow5 (by omega) (by omega) hown' hgrow;have hc1:=hv1.cell;have hf1:=hv1.frozen)
  all_goals have bN6:=((bN5.alloc (.cells #[.int .u64 (q:Int)] 22)).kept hgrow (by simp;omega)).other (B':=s1+1) (by omega) (.slice (some ⟨s1,0,none⟩) (pre.length+1) p)
  all_goals have bM6:=((bM5.alloc (.cells #[.int .u64 (q:Int)] 22)).kept hgrow (by simp;omega)).other (B':=s1+1) (by omega) (.slice (some ⟨s1,0,none⟩) (pre.length+1) p)
  all_goals obtain ⟨r1,r2,r3⟩:=R.out
  all_goals refine ⟨(hk5.trans hk2).from _,⟨hb5.trans hb2,bN6.cell.trans hcN.symm⟩,⟨⟨_,hv2,?_,by simp⟩,?_,bN6⟩,hB.trans ((hb5.trans hb2).mono (by have:=hb.size;omega))⟩
  all_goals rw [r1]
  all_goals first | exact bM6 | (rw [z26,List.length_append];exact hr2)
 case done=>
  rintro D ys W hD hys ⟨⟨⟨v,bO,hrow,rfl⟩,bM,bN⟩,hB⟩ hK;have hc:=bO.cell;gi_wp2
  refine ⟨by simp,.inl ⟨_,_,rfl,run_takeDeferred hK,?_⟩⟩;have hys':ys=UPTO (BACK p f) p:=hys;subst hys';obtain ⟨a1,a2,a3⟩:=HA.out;have hl:(UPTO (BACK p f) p).length=p:=z47 _ _;rw [hl,a1,<-zhE,ziF a3] at hrow;refine ⟨_,results_tmp rfl _ _ _,s1,p,?_,?_,hB.trans (belowK_b (w:=w) (Nat.le_refl _) W D _ _ (by have:=hb.size;omega) hK rfl rfl)⟩
  ·rw [<-a2,hl]
   rfl
  ·rw [<-a2]
   exact ownsRow_putObj (z0q hrow (by have:=hb.size;omega)) _ hK rfl
 case stop=>
  rintro D c pre W _ _ h _;exact h.elim
end Go.Proofs.YtdggkbpabjgdfaaGreatDoor

namespace Go.Proofs.YtdggkbpabjgdfaaGreatDoor
open Go.RowKit
theorem z4h {ops:Array Oper} {rest:List Oper} {o:Oper} {a:Act} {Q:Exit->Act->World->Prop} (w:World) (hgd:o.guard=none) (s x:Operand)
  (ho:o.op=.call {callee:=.builtin .append,args:=#[s,x],argTypes:=#[86,86]})
  (base:Nat) (v:Value) (n:Nat) (xs:List Nat) (hs:a.eval s=v) (hown:w.ownsRow base 22 1 v n (z04 xs))
  (b c:Nat) (y:Nat) (hx:a.eval x=.slice (some ⟨b,0,none⟩) 1 c) (hc:w.cell? ⟨b,0,none⟩=some (.int .u64 (y:Int)))
  (hb:n<=1000) (hbase:base<=w.heap.size)
  (h:∀ g cap w',w'.ownsRow base 22 1 (.slice (some ⟨g,0,none⟩) (n+1) cap) (n+1) (z04 (xs ++ [y]))->w.grownBy w' v.ownBlock->g<w'.heap.size->wpList Tryz.prog ops Q rest (a.put o.dst (.slice (some ⟨g,0,none⟩) (n+1) cap)) w'):wpList Tryz.prog ops Q (o :: rest) a w:=by
 obtain ⟨i,hi,hz,hs1,hby⟩:=info_parts z2w;refine wpList_append_lies w hgd s x 86 ho base 22 i (.int .u64 0) 1 8 Tryz.underlying86 hi hz hs1 hby rfl (by decide) v n (z04 xs) hs hown ⟨b,0,none⟩ 1 c [.int .u64 (y:Int)] hx rfl ?_ (fun u hu=>by simp at hu;subst hu;rfl) (by decide) (by simp only [maxLen];omega) (by omega) hbase w.heap.size rfl ?_
 ·intro j u hj
  cases j with
  | zero=>
    simp only [List.getElem?_cons_zero,Option.some.injEq] at hj;subst hj;exact hc
  | succ j=>simp at hj
 ·intro g cap w' h1 h2 _ h4
  rw [<-z26] at h1;exact h g cap w' h1 h2 h4
theorem zg7 (i n x r:Int) (w:World) (hd:decide (4611686018427387904<n)=false) (hi:decide (n<=i)=false) (hx:bits .xor .u64 i n=x) (c:∀ w,Calls Tryz.prog 106 #[.int .u64 x] w fun e w'=>e=.returned (.int .i64 r)/\w=w'):
  Calls Tryz.prog 78 #[.int .u64 i,.int .u64 n] w fun e w'=>e=.returned (.tuple #[.int .i64 r,.bool true])/\w=w':=by
 go_enter Tryz.func78,Tryz.ntmps78;have hd':¬ 4611686018427387904<n:=by simpa using hd
 have hi':¬ n<=i:=by simpa using hi
 go_wp2_with fail
 refine (c _).mono ?_;rintro e w' ⟨rfl,rfl⟩;go_wp2;go_ret2;exact ⟨rfl,rfl⟩
theorem zc4 (i n:Nat) (hi:i<n) (hn:n<=4611686018427387904) (w:World):Calls Tryz.prog 78 #[.int .u64 (i:Int),.int .u64 (n:Int)] w fun e w'=>e=.returned (.tuple #[.int .i64 ((RISE i n:Nat):Int),.bool true])/\w=w':=by
 have hX:i ^^^ n<2 ^ 63:=Nat.xor_lt_two_pow (by omega) (by omega);have h1:=(z0L hi hn).1;refine zg7 i n ((i ^^^ n:Nat):Int) _ w (by simp;omega) (by simp;omega) (bits_xor_u64_nat i n (by omega) (by omega)) (fun w=>?_);have:=z5W (i ^^^ n) (by omega) w;rw [show ((LEN (i ^^^ n):Nat):Int) - 1=((RISE i n:Nat):Int) by unfold RISE;omega] at this;exact this
theorem zg8 (i n:Int) (h:¬ (i<n/\n<=4611686018427387904)) (w:World):Calls Tryz.prog 78 #[.int .u64 i,.int .u64 n] w fun e w'=>e=.returned (.tuple #[.int .i64 0,.bool false])/\w=w':=by
 by_cases hd:4611686018427387904<n
 ·clear h
  go_enter Tryz.func78,Tryz.ntmps78;go_wp2;go_ret2;exact ⟨rfl,rfl⟩
 ·have hi:n<=i:=by omega
  clear h;go_enter Tryz.func78,Tryz.ntmps78;go_wp2;go_ret2;exact ⟨rfl,rfl⟩
theorem zg9 (i n r x y k:Int) (w:World) (h:Nat) (hr:r=(h:Int)) (e1:n / 2 ^ min h 64=x) (e2:x / 2=y) (c:∀ w,Calls Tryz.prog 78 #[.int .u64 i,.int .u64 n] w fun e w'=>e=.returned (.tuple #[.int .i64 r,.bool true])/\w=w') (co:∀ w,Calls Tryz.prog 108 #[.int .u64 y] w fun e w'=>e=.returned (.int .i64 k)/\w=w'):
  Calls Tryz.prog 101 #[.int .u64 i,.int .u64 n] w fun e w'=>e=.returned (.tuple #[.int .i64 k,.bool true])/\w=w':=by
 subst hr;go_enter Tryz.func101,Tryz.ntmps101;go_wp2_with fail
 refine (c _).mono ?_;rintro e w' ⟨rfl,rfl⟩;clear c;go_wp2_with fail
 refine (co _).mono ?_;rintro e w' ⟨rfl,rfl⟩;go_wp2;go_ret2;exact ⟨rfl,rfl⟩
theorem zhH (i n:Nat) (hi:i<n) (hn:n<=4611686018427387904) (w:World):Calls Tryz.prog 101 #[.int .u64 (i:Int),.int .u64 (n:Int)] w fun e w'=>e=.returned (.tuple #[.int .i64 ((KTH i n:Nat):Int),.bool true])/\w=w':=by
 have h2:=(z0L hi hn).2.1;refine zg9 i n _ ((n / 2 ^ RISE i n:Nat):Int) ((n / 2 ^ (RISE i n+1):Nat):Int) _ w (RISE i n) rfl ?_ ?_ (fun w=>zc4 i n hi hn w) (fun w=>?_)
 ·rw [show min (RISE i n) 64=RISE i n by omega,z1K]
 ·rw [z0S]
  omega
 ·have hl:n / 2 ^ (RISE i n+1)<2 ^ 64:=Nat.lt_of_le_of_lt (Nat.div_le_self _ _) (by omega)
  have:=z80 (n / 2 ^ (RISE i n+1)) hl w;rw [z5e hl] at this;exact this
theorem zga (i n:Int) (h:¬ (i<n/\n<=4611686018427387904)) (w:World):Calls Tryz.prog 43 #[.int .u64 i,.int .u64 n] w fun e w'=>e=.returned (.tuple #[.slice none 0 0,.bool false])/\w=w':=by
 have c:=zg8 i n h;clear h;go_enter Tryz.func43,Tryz.ntmps43;go_wp2_with fail
 refine (c _).mono ?_;rintro e w' ⟨rfl,rfl⟩;clear c;go_wp2;go_ret2;exact ⟨rfl,rfl⟩
theorem z87 (i n:Nat) (hi:i<n) (hn:n<=4611686018427387904) (w:World):Calls Tryz.prog 43 #[.int .u64 (i:Int),.int .u64 (n:Int)] w fun e w'=>
  ∃ g cap,e=.returned (.tuple #[.slice (some ⟨g,0,none⟩) (RISE i n) cap,.bool true])/\w'.ownsRow w.heap.size 22 1 (.slice (some ⟨g,0,none⟩) (RISE i n) cap) (RISE i n) (z04 (WAY i (RISE i n)))/\g<w'.heap.size/\Below w.heap.size w w':=by
 have c1:=zc4 i n hi hn;have h62:=(z0L hi hn).2.1;have c2:=z9S i (by omega);generalize RISE i n=H at *
 obtain ⟨cur,hcs,hmk⟩:=za2 H (by omega) w;have HA:Aside (i<4611686018427387904/\H<=62/\cur.size=H):=⟨by omega,h62,hcs⟩
 have hp:(z0v i:Nat)=PLC 0 (i / 2 ^ 0):=by rw [z9N,Nat.pow_zero,Nat.div_one]
 rw [hp] at c2;clear hi hn h62 hcs hp;go_enter Tryz.func43,Tryz.ntmps43;go_wp2_with fail
 refine (c1 _).mono ?_;rintro e w' ⟨rfl,rfl⟩;clear c1;go_wp2_with fail
 refine (c2 _).mono ?_;rintro e w' ⟨rfl,rfl⟩;clear c2;go_wp2;go_loopg [8,9,25] H (fun g s8 s9 s25 wx=>∃ j:Nat,s25=.int .i64 (j:Int)/\s9=.int .u64 ((PLC j (i / 2 ^ j):Nat):Int)/\Aside (j+g=H/\wx.ownsRow w.heap.size 22 1 s8 j (z04 (WAY i j))/\(∃ b cap,s8=.slice (some ⟨b,0,none⟩) j cap/\b<wx.heap.size)/\Below w.heap.size w wx))
 case atStart=>exact ⟨0,rfl,by rw [Nat.pow_zero,Nat.div_one],by omega,World.ownsRow_made w cur H (Nat.le_refl _) (by have:=HA.out.2.1;simp only [maxLen];omega) (by rw [HA.out.2.2];omega),⟨_,_,rfl,by simp⟩,(Below.refl _ _).alloc (Nat.le_refl _) _⟩
 case round=>
  obtain ⟨j,rfl,rfl,A⟩:=hrel;clear hmk;cases gk with
  | zero=>
    obtain ⟨hj,hown,⟨b,cap,hs,hb⟩,hbel⟩:=A.out;obtain rfl:j=H:=by omega
    subst hs;have hlt:¬ (j:Int)<(j:Int):=by omega
    clear hj hown hb hbel HA;go_wp2;go_ret2;obtain ⟨hj,hown,⟨b',cap',hs,hb⟩,hbel⟩:=A.out;cases hs;exact ⟨b,cap,rfl,hown,hb,hbel⟩
  | succ g=>
    obtain ⟨hj,hown,⟨b,cap,hs,hb⟩,hbel⟩:=A.out;have hlt:(j:Int)<(H:Int):=by omega
    have h62:=HA.out.2.1;have hN:=Node.over HA.out.1 j (by omega);have cb:=zej j (i / 2 ^ j) hN (by omega);have co:=zhG j (i / 2 ^ j) hN (by omega)
    have hR:(bits .and .u64 ((i:Int) / 2 ^ min j 64) 1 == 1)=decide (i / 2 ^ j % 2=1):=by
     rw [show min j 64=j by omega,z1K];exact zei _ (Nat.lt_of_le_of_lt (Nat.div_le_self _ _) (by have:=HA.out.1;omega))
    have e1:wrap64 ((j:Int)+1)=((j+1:Nat):Int):=by unfold wrap64;omega
    have hj0:¬ (j:Int)<0:=by omega
    rw [<-z0S] at co;have hw:=z9Z i j;generalize hz:decide (i / 2 ^ j % 2=1)=z at *
    clear hz;generalize PLC j (i / 2 ^ j)=x at *
    generalize PLC j (SIB (i / 2 ^ j))=y at *
    generalize hv:PLC (j+1) (i / 2 ^ (j+1))=v at *
    have R:Aside (j+1+g=H/\wr.ownsRow w.heap.size 22 1 u8 j (z04 (WAY i j))/\Below w.heap.size w wr/\j<=1000/\WAY i (j+1)=WAY i j ++ [y]/\PLC (j+1) (i / 2 ^ (j+1))=v):=⟨by omega,hown,hbel,by omega,hw,hv⟩
    clear A hj hown hs hb hbel h62 hN hw hv HA;go_wp2_with fail
    refine (cb _).mono ?_;rintro e w' ⟨rfl,rfl⟩;clear cb;go_wp2_with (at_builtin;refine z4h _ rfl (.tmp 33) (.tmp 38) rfl w.heap.size u8 j (WAY i j) rfl (R.out.2.1.alloc _) wr.heap.size 1 y rfl (by rw [World.cell?_alloc_at _ _ _ _ rfl];rfl) R.out.2.2.2.1 (by have:=R.out.2.2.1.size;simp;omega) ?_;intro g' cap w1 hown hgrow hg)
    obtain ⟨r1,r2,r3,r4,r5,r6⟩:=R.out;have R2:Aside (j+1+g=H/\w1.ownsRow w.heap.size 22 1 (.slice (some ⟨g',0,none⟩) (j+1) cap) (j+1) (z04 (WAY i (j+1)))/\g'<w1.heap.size/\Below w.heap.size w w1/\PLC (j+1) (i / 2 ^ (j+1))=v):=⟨r1,by rw [r5];exact hown,hg,(r3.alloc r3.size _).grown hgrow (by have:=r3.size;simp;omega) (fun k e=>(r2.lt k e).1),r6⟩
    clear hown hgrow hg R r1 r2 r3 r4 r5 r6;refine (co _).mono ?_;rintro e w' ⟨rfl,rfl⟩;clear co;go_wp2;go_roundg g
    case measure=>omega
    case rel=>
     obtain ⟨r1,r2,r3,r4,r6⟩:=R2.out;exact ⟨j+1,by first | rfl | (rw [e1]),by rw [r6],r1,r2,⟨_,_,rfl,r3⟩,r4⟩
def z07 (l:List (Nat × Nat)):List Value:=l.flatMap fun x=>[Value.int .u8 (x.1:Int),Value.int .u64 (x.2:Int)]
theorem zbf (l:List (Nat × Nat)) (h k:Nat):z07 (l ++ [(h,k)])=z07 l ++ [Value.int .u8 (h:Int),Value.int .u64 (k:Int)]:=by simp [z07]
theorem z3Q:∀ (l:List (Nat × Nat)) (j h k:Nat),l[j]?=some (h,k)->(z07 l)[j*2]?=some (.int .u8 (h:Int))/\(z07 l)[j*2+1]?=some (.int .u64 (k:Int))
 | [],j,h,k,e=>by simp at e
 | x :: l,0,h,k,e=>by
   simp at e;subst e;simp [z07]
 | x :: l,j+1,h,k,e=>by
   have:=z3Q l j h k (by simpa using e);have e1:(j+1)*2=j*2+1+1:=by omega
   simp only [z07,List.flatMap_cons,List.cons_append,List.nil_append,e1,List.getElem?_cons_succ];exact this
theorem z8G:(Tryz.prog.info? 77).map (fun i=>(i.zero,i.size,i.bytes))=some (some (.agg #[.int .u8 0,.int .u64 0]),2,16):=by kernel_rfl
theorem z2T {ops:Array Oper} {rest:List Oper} {o:Oper} {a:Act} {Q:Exit->Act->World->Prop} (w:World) (hgd:o.guard=none) (s x:Operand)
  (ho:o.op=.call {callee:=.builtin .append,args:=#[s,x],argTypes:=#[74,74]})
  (base:Nat) (v:Value) (n:Nat) (xs:List (Nat × Nat)) (hs:a.eval s=v) (hown:w.ownsRow base 77 2 v n (z07 xs))
  (b c:Nat) (h k:Nat) (hx:a.eval x=.slice (some ⟨b,0,none⟩) 1 c) (hc0:w.cell? ⟨b,0,none⟩=some (.int .u8 (h:Int))) (hc1:w.cell? ⟨b,1,none⟩=some (.int .u64 (k:Int)))
  (hb:n<=1000) (hbase:base<=w.heap.size)
  (hh:∀ g cap w',w'.ownsRow base 77 2 (.slice (some ⟨g,0,none⟩) (n+1) cap) (n+1) (z07 (xs ++ [(h,k)]))->w.grownBy w' v.ownBlock->g<w'.heap.size->wpList Tryz.prog ops Q rest (a.put o.dst (.slice (some ⟨g,0,none⟩) (n+1) cap)) w'):wpList Tryz.prog ops Q (o :: rest) a w:=by
 obtain ⟨i,hi,hz,hs1,hby⟩:=info_parts z8G;refine wpList_append_lies w hgd s x 74 ho base 77 i _ 2 16 Tryz.underlying74 hi hz hs1 hby rfl (by decide) v n (z07 xs) hs hown ⟨b,0,none⟩ 1 c [.int .u8 (h:Int),.int .u64 (k:Int)] hx rfl ?_ (fun u hu=>by simp at hu;rcases hu with rfl | rfl <;> rfl) (by decide) (by simp only [maxLen];omega) (by omega) hbase w.heap.size rfl ?_
 ·intro j u hj
  match j,hj with
  | 0,hj=>
    simp only [List.getElem?_cons_zero,Option.some.injEq] at hj;subst hj;exact hc0
  | 1,hj=>
    simp only [List.getElem?_cons_succ,List.getElem?_cons_zero,Option.some.injEq] at hj;subst hj;exact hc1
  | j+2,hj=>simp at hj
 ·intro g cap w' h1 h2 _ h4
  rw [<-zbf] at h1;exact hh g cap w' h1 h2 h4
def Spots (w:World) (a:Option Addr) (l:List (Nat × Nat)):Prop:=0<l.length->∃ g,a=some ⟨g,0,none⟩/\g<w.heap.size/\∀ (j h k:Nat),l[j]?=some (h,k)->w.cell? ⟨g,j*2,none⟩=some (.int .u8 (h:Int))/\w.cell? ⟨g,j*2+1,none⟩=some (.int .u64 (k:Int))
theorem Spots.below {w w':World} {a:Option Addr} {l:List (Nat × Nat)} (h:Spots w a l) (hb:Below w.heap.size w w'):Spots w' a l:=fun h0=>by
 obtain ⟨g,e,hg,hc⟩:=h h0;exact ⟨g,e,Nat.lt_of_lt_of_le hg hb.size,fun j x y he=>⟨(hb.cell (p:=⟨g,j*2,none⟩) hg).trans (hc j x y he).1,(hb.cell (p:=⟨g,j*2+1,none⟩) hg).trans (hc j x y he).2⟩⟩
theorem z2A {w:World} {base n:Nat} {v:Value} {l:List (Nat × Nat)} (hl:l.length=n) (h:w.ownsRow base 77 2 v n (z07 l)):∃ a cap,v=.slice a n cap/\Spots w a l:=by
 rcases h.2 with ⟨rfl,h0⟩ | ⟨g,cap,cur,rfl,hb,hg,r⟩
 ·subst h0
  exact ⟨none,0,rfl,fun h=>by omega⟩
 ·refine ⟨_,cap,rfl,fun h0=>⟨g,rfl,?_,fun j x y he=>?_⟩⟩
  ·exact (Array.getElem?_eq_some_iff.1 hg).1
  ·have hj:j<n:=by rw [<-hl];exact (List.getElem?_eq_some_iff.1 he).1
   have h1:=z3Q l j x y he;exact ⟨(h.cellAt (j*2) (by omega)).trans h1.1,(h.cellAt (j*2+1) (by omega)).trans h1.2⟩
theorem z0m {w w':World} {base:Nat} {t:TypeId} {s:Nat} {v:Value} {n:Nat} {xs:List Value} (h:w.ownsRow base t s v n xs) (hb:Below w.heap.size w w'):w'.ownsRow base t s v n xs:=by
 refine ⟨h.1,h.2.imp id ?_⟩;rintro ⟨g,c,cur,a,b,r,rest⟩;exact ⟨g,c,cur,a,b,(hb.block g (Array.getElem?_eq_some_iff.1 r).1).trans r,rest⟩
def Has (w:World) (g:Nat) (c:Array Value) (t:TypeId):Prop:=w.heap[g]?=some (.cells c t)
theorem Has.cell {w:World} {g:Nat} {c:Array Value} {t:TypeId} (h:Has w g c t) (i:Nat):w.cell? ⟨g,i,none⟩=c[i]?:=cell_of_row w g i c t _ h
theorem Has.lt {w:World} {g:Nat} {c:Array Value} {t:TypeId} (h:Has w g c t):g<w.heap.size:=(Array.getElem?_eq_some_iff.1 h).1
theorem Has.frozen {w:World} {g:Nat} {c:Array Value} {t:TypeId} (h:Has w g c t) (i:Nat):w.frozen? ⟨g,i,none⟩=false:=by
 have e:w.heap[g]?=some (.cells c t):=h;simp [World.frozen?,e]
theorem Has.set {w:World} {g:Nat} {c:Array Value} {t:TypeId} (h:Has w g c t) (i:Nat) (v:Value):Has (w.setCell ⟨g,i,none⟩ v) g (c.setIfInBounds i v) t:=by
 have e:w.heap[g]?=some (.cells c t):=h;unfold Has;rw [setCell_eq_setRow w g i c t _ v e,setRow_heap w g c _ t _ e]
theorem Has.other {w:World} {g:Nat} {c:Array Value} {t:TypeId} (h:Has w g c t) {a:Addr} (ha:g≠a.block) (v:Value):Has (w.setCell a v) g c t:=by
 have e:w.heap[g]?=some (.cells c t):=h;unfold Has;rw [Below.heap_setCell w a v g ha,e]
theorem Has.below {B:Nat} {w w':World} {g:Nat} {c:Array Value} {t:TypeId} (h:Has w g c t) (hb:Below B w w') (hg:g<B):Has w' g c t:=(hb.block g hg).trans h
theorem Has.keep {w w':World} {g:Nat} {c:Array Value} {t:TypeId} (h:Has w g c t) (hb:Below w.heap.size w w'):Has w' g c t:=h.below hb h.lt
theorem Has.alloc {w:World} {g:Nat} {c:Array Value} {t:TypeId} (h:Has w g c t) (o:Obj):Has (w.alloc o) g c t:=by
 have e:w.heap[g]?=some (.cells c t):=h;unfold Has;rw [Below.heap_alloc w o g h.lt,e]
theorem Has.new (w:World) (c:Array Value) (t:TypeId):Has (w.alloc (.cells c t)) w.heap.size c t:=heap_alloc_new w _
theorem Has.at (w:World) (c:Array Value) (t:TypeId) {g:Nat} (hg:g=w.heap.size):Has (w.alloc (.cells c t)) g c t:=by subst hg;exact Has.new w c t
theorem Has.row {w:World} {g:Nat} {c:Array Value} {t:TypeId} (h:Has w g c t) (c':Array Value):Has (w.setRow g c') g c' t:=setRow_heap w g c c' t _ h
theorem Has.row_other {w:World} {g k:Nat} {c:Array Value} {t:TypeId} (h:Has w g c t) (hk:g≠k) (c':Array Value):Has (w.setRow k c') g c t:=by
 have e:w.heap[g]?=some (.cells c t):=h;unfold Has;rw [setRow_other w k g c' hk,e]
theorem Has.drewN {w:World} {g:Nat} {c:Array Value} {t:TypeId} (h:Has w g c t) (n:Nat):Has (w.drewN n) g c t:=h
theorem z5X {w:World} {b i j:Nat} (h:i≠j) (v:Value):(w.setCell ⟨b,i,none⟩ v).cell? ⟨b,j,none⟩=w.cell? ⟨b,j,none⟩:=World.cell?_setCell_other w _ _ v (fun e=>h (congrArg Addr.off e))
theorem z0e {B g:Nat} {w0 w:World} (hb:Below B w0 w) (hBg:B<=g) (cs:Array Value):Below B w0 (w.setRow g cs):=
 ⟨hb.os,hb.tape,hb.output,by have:=hb.size;simpa [World.setRow] using this,fun k hk=>by rw [setRow_other w g k cs (by omega)];exact hb.block k hk⟩
end Go.Proofs.YtdggkbpabjgdfaaGreatDoor
namespace Go.Proofs.YtdggkbpabjgdfaaGreatDoor
open Go.RowKit Go.Maps
set_option maxRecDepth 100000
theorem za3:laidOutB Tryz.prog=true:=by kernel_rfl
theorem zc5:(77:TypeId)<Tryz.prog.types.size:=of_decide_eq_true (by kernel_rfl)
theorem zgb:(match Tryz.prog.underlying 77 with | some (.array _ _) | some (.struct _)=>true | _=>false)=true:=by rw [Tryz.underlying77]
theorem law:Keyed Tryz.prog 77:=Keyed.of_law (deep_law_laid za3 (m:=2) (by omega) zc5 (by kernel_rfl) zgb)
def KL (h k:Nat):Lit:=.string (keyBytes [.int .u8 (h:Int),.int .u64 (k:Int)])
theorem z4i {h k:Nat} (hh:h<256) (hk:k<2 ^ 64):keyOf Tryz.prog 77 (SPOT h k)=some (KL h k):=by
 have w0:(Lit.int .u8 (h:Int)).wf=true:=WalkArith.wf_u8 (by omega);have w1:(Lit.int .u64 (k:Int)).wf=true:=WalkArith.wf_u64 (by omega);have c3:Tryz.prog.cellsOf 77=2:=by kernel_rfl
 have c1:Tryz.prog.cellsOf 5=1:=by kernel_rfl
 have c2:Tryz.prog.cellsOf 22=1:=by kernel_rfl
 have ht:Tryz.prog.keyType 77=true:=by kernel_rfl
 have hf:(SPOT h k).formed Tryz.prog 77=true:=by simp [Value.formed,Tryz.underlying77,c3]
 obtain ⟨m,hm⟩:∃ m,Tryz.prog.types.size=m+1:=⟨Tryz.prog.types.size - 1,(Nat.succ_pred_eq_of_pos (Nat.lt_of_le_of_lt (Nat.zero_le _) zc5)).symm⟩
 unfold keyOf;simp only [Tryz.underlying77,ht,hf,hm];simp [Program.keyLits,Tryz.underlying77,Tryz.underlying5,Tryz.underlying22,c1,c2,c3,Value.cells,w0,w1,KL]
theorem zel {h k h' k':Nat} (hh:h<256) (hk:k<2 ^ 64) (hh':h'<256) (hk':k'<2 ^ 64) (e:KL h k=KL h' k'):h=h'/\k=k':=by
 have h1:=z4i hh hk;have h2:=z4i hh' hk';rw [<-e] at h2;have:=law.inj h1 h2;simp at this;omega
abbrev U64 (n:Nat):DataW Unit:=.lit (.int .u64 (n:Int))
def MapOk (D:DataW Unit) (m:Nat):Prop:=∀ h k,h<256->k<2 ^ 64->(Maps.has D (KL h k)=true↔Node h k/\PLC h k<m)/\(Node h k->PLC h k<m->D.atKey (KL h k) (U64 0)=U64 (PLC h k))
theorem MapOk.none:MapOk (.map []) 0:=fun h k _ _=>⟨⟨fun e=>by simp [Maps.has] at e,fun e=>by omega⟩,fun _ e=>by omega⟩
theorem Node.small {h k:Nat} (a:Node h k):h<256/\k<2 ^ 64:=⟨by have:=a.1;omega,by have:=a.index_lt;omega⟩
theorem MapOk.put {D:DataW Unit} {m h k:Nat} (hD:Maps.IsMap D) (hM:MapOk D m) (hN:Node h k) (hp:PLC h k=m):MapOk (D.put (KL h k) (U64 m)) (m+1):=by
 intro h' k' hh' hk';obtain ⟨hh,hk⟩:=hN.small;have hkey:WideAt.IsKeyLit (KL h k):=law.key (z4i hh hk);by_cases e:KL h' k'=KL h k
 ·obtain ⟨rfl,rfl⟩:=zel hh' hk' hh hk e
  exact ⟨⟨fun _=>⟨hN,by omega⟩,fun _=>Maps.has_put_same hD hkey _⟩,fun _ _=>by rw [Maps.atKey_put_same hD hkey,hp]⟩
 ·have hne:∀ _:Node h' k',PLC h' k'≠m:=fun hN' e2=>e (by obtain ⟨rfl,rfl⟩:=hN'.one hN (by omega);rfl)
  rw [Maps.has_put_other e,Maps.atKey_put_other e];obtain ⟨a,b⟩:=hM h' k' hh' hk';refine ⟨⟨fun h=>?_,fun h=>?_⟩,fun h1 h2=>b h1 (by have:=hne h1;omega)⟩
  ·have:=a.1 h
   exact ⟨this.1,by omega⟩
  ·exact a.2 ⟨h.1,by have:=hne h.1;omega⟩
def Placed (w:World) (b m:Nat):Prop:=∃ D:DataW Unit,w.ownsMap Tryz.prog 77 (plainElem Tryz.prog 22) b m D/\MapOk D m
theorem Placed.made (w:World):Placed (w.alloc (.map #[] 0)) w.heap.size 0:=⟨_,World.ownsMap_made w _ _ _,MapOk.none⟩
theorem Placed.kept {w w':World} {b m:Nat} {row:Option Nat} (h:Placed w b m) (hg:w.grownBy w' row) (hne:some b≠row):Placed w' b m:=let ⟨D,h1,h2⟩:=h; ⟨D,h1.kept hg hne,h2⟩
theorem Placed.lt {w:World} {b m:Nat} (h:Placed w b m):b<w.heap.size:=let ⟨_,h1,_⟩:=h;h1.lt
theorem Placed.below {w w':World} {b m:Nat} (h:Placed w b m) (hb:Below w.heap.size w w'):Placed w' b m:=by
 have hlt:=h.lt;obtain ⟨D,⟨es,clock,h1,r⟩,h2⟩:=h;exact ⟨D,⟨es,clock,(hb.block b hlt).trans h1,r⟩,h2⟩
theorem Placed.alloc {w:World} {b m:Nat} (h:Placed w b m) (o:Obj):Placed (w.alloc o) b m:=h.below ((Below.refl _ _).alloc (Nat.le_refl _) _)
theorem Placed.setCell {w:World} {b m:Nat} (h:Placed w b m) {a:Addr} (ha:b≠a.block) (u:Value):Placed (w.setCell a u) b m:=let ⟨D,h1,h2⟩:=h; ⟨D,h1.setCell ha u,h2⟩
end Go.Proofs.YtdggkbpabjgdfaaGreatDoor
namespace Go.Proofs.YtdggkbpabjgdfaaGreatDoor
open Go.RowKit
def BARR (n:Nat) (f:Nat->Int):Array Value:=((List.range n).map fun i=>Value.int .u8 (f i)).toArray
theorem z2B (n:Nat) (f:Nat->Int):(BARR n f).size=n:=by simp [BARR]
theorem z2d (n:Nat) (f:Nat->Int) (i:Nat) (h:i<n):(BARR n f)[i]?=some (.int .u8 (f i)):=by simp [BARR,h]
theorem za4 {n:Nat} {f g:Nat->Int} (h:∀ i,i<n->f i=g i):BARR n f=BARR n g:=by
 unfold BARR;congr 1
 apply List.map_congr_left;intro i hi;rw [h i (by simpa using hi)]
theorem z6D (n:Nat) (f:Nat->Int) (i:Nat) (v:Int):(BARR n f).setIfInBounds i (.int .u8 v)=BARR n fun j=>if j=i then v else f j:=by
 apply Array.ext_getElem?;intro j;by_cases hj:j<n
 ·rw [z2d _ _ j hj,Array.getElem?_setIfInBounds]
  by_cases h:i=j
  ·subst h
   simp [z2B,hj]
  ·have h':¬ j=i:=fun e=>h e.symm
   simp [h,h',z2d _ _ j hj]
 ·rw [Array.getElem?_eq_none (by simp [z2B];omega),Array.getElem?_eq_none (by simp [z2B];omega)]
theorem z5i (n:Nat):madeCells #[Value.int .u8 0] n=BARR n fun _=>0:=by
 apply Array.ext_getElem?;intro j;by_cases hj:j<n
 ·rw [z2d _ _ j hj]
  simp [madeCells,hj,Nat.mod_one]
 ·rw [Array.getElem?_eq_none (by simp [madeCells];omega),Array.getElem?_eq_none (by simp [z2B];omega)]
theorem z0X:(Tryz.prog.info? 5).map (fun i=>(i.zero,i.size,i.bytes))=some (some (.int .u8 0),1,1):=by kernel_rfl
theorem z77 (n:Nat) (hn:n<=1000000) (w:World):(Instr.makeSlice 25 (.int .i64 (n:Int)) (.int .i64 (n:Int))).run Tryz.prog w=.ok (.slice (some ⟨w.heap.size,0,none⟩) n n) (w.alloc (.cells (BARR n fun _=>0) 5)):=by
 rw [run_make_row' 25 5 (.int .u8 0) 1 Tryz.underlying25 z0X rfl .i64 .i64 n (by omega) (by omega) w,z5i]
def IsRow (k:IntKind) (w:World) (a:Option Addr) (len cap:Nat) (zs:List Int):Prop:=
 (a=none/\len=0/\cap=0/\zs=[])\/
 ∃ x,a=some x/\len<=cap/\cap<=maxLen/\zs.length=cap/\(∀ i,i<zs.length->w.cell? (x.add i)=some (.int k (zs.getD i 0)))/\∀ n∈zs,(Lit.int k n).wf=true
def Bytes (w:World) (a:Option Addr) (n:Nat) (l:List Int):Prop:=
 l.length=n/\(0<n->∃ b off,a=some ⟨b,off,none⟩/\b<w.heap.size/\∀ i,i<n->w.cell? ⟨b,off+i,none⟩=some (.int .u8 (l.getD i 0)))/\∀ x∈l,0<=x/\x<=255
theorem Bytes.below {w w':World} {a:Option Addr} {n:Nat} {l:List Int} (h:Bytes w a n l) (hb:Below w.heap.size w w'):Bytes w' a n l:=
 ⟨h.1,fun hn=>by
  obtain ⟨b,off,e,hl,hc⟩:=h.2.1 hn;exact ⟨b,off,e,Nat.lt_of_lt_of_le hl hb.size,fun i hi=>(hb.cell (by exact hl)).trans (hc i hi)⟩,h.2.2⟩
theorem Bytes.get {w:World} {a:Option Addr} {n:Nat} {l:List Int} (h:Bytes w a n l) (i:Nat):0<=l.getD i 0/\l.getD i 0<=255:=by
 by_cases hi:i<l.length
 ·rw [List.getD_eq_getElem?_getD,List.getElem?_eq_getElem hi]
  exact h.2.2 _ (List.getElem_mem hi)
 ·rw [List.getD_eq_getElem?_getD,List.getElem?_eq_none (by omega)]
  simp
theorem z1a (b off i:Nat):(⟨b,off,none⟩:Addr).add i=⟨b,off+i,none⟩:=by unfold Addr.add;split <;> simp_all
theorem IsRow.bytes {w:World} {a:Option Addr} {n c:Nat} {zs:List Int} (h:IsRow .u8 w a n c zs):Bytes w a n (zs.take n):=by
 rcases h with ⟨rfl,rfl,rfl,rfl⟩ | ⟨x,rfl,hl,_,hz,hcell,hwf⟩
 ·exact ⟨rfl,fun h=>by omega,fun x hx=>by simp at hx⟩
 ·refine ⟨by simp [hz,hl],fun hn=>?_,fun y hy=>?_⟩
  ·obtain ⟨b,off,spot⟩:=x
   have hc:=hcell 0 (by omega);have hspot:spot=none:=by simpa [Addr.add] using World.cell?_spot hc
   subst hspot;refine ⟨b,off,rfl,block_lt_of_cell (by simpa [Addr.add] using hc),fun i hi=>?_⟩;have:=hcell i (by omega);rw [z1a] at this;rw [this];congr 2
   simp [List.getD_eq_getElem?_getD,hi]
  ·have:=bounds_u8 (hwf y (List.mem_of_mem_take hy))
   exact this
theorem z5j {F f:Nat->Int} {i:Nat} {v:Int} (A:∀ j,f j=if j<i then F j else 0) (hv:v=F i):∀ j,(if j=i then v else f j)=if j<i+1 then F j else 0:=fun j=>by
 by_cases e:j=i
 ·subst e
  simp [hv]
 ·rw [if_neg e,A j]
  by_cases e2:j<i
  ·rw [if_pos e2,if_pos (by omega)]
  ·rw [if_neg e2,if_neg (by omega)]
theorem z88 (x:Int) (n:Nat) (F:Nat->Int) (hn:(n:Int)<=8) (w:World) (c:∀ w,Calls Tryz.prog 145 #[.int .u64 x,.int .i64 (8*(n:Int))] w fun e w'=>e=.returned (.int .u64 0)/\w=w')
  (ci:∀ i:Nat,i<n->∃ s:Int,Aside (s % 256=F i)/\∀ w,Calls Tryz.prog 145 #[.int .u64 x,.int .i64 (8*((n:Int) - 1 - (i:Int)))] w fun e w'=>e=.returned (.int .u64 s)/\w=w'):
  Calls Tryz.prog 130 #[.int .u64 x,.int .i64 (n:Int)] w fun e w'=>e=.returned (.tuple #[.slice (some ⟨w.heap.size,0,none⟩) n n,.int .i64 0])/\w.alloc (.cells (BARR n F) 5)=w':=by
 have hmk:=z77 n (by omega);have CI:Aside (∀ i:Nat,i<n->∃ s:Int,Aside (s % 256=F i)/\∀ w,Calls Tryz.prog 145 #[.int .u64 x,.int .i64 (8*((n:Int) - 1 - (i:Int)))] w fun e w'=>e=.returned (.int .u64 s)/\w=w'):=ci;clear ci;go_enter Tryz.func130,Tryz.ntmps130;go_wp2_with fail
 refine (c _).mono ?_;rintro e w' ⟨rfl,rfl⟩;go_wp2;go_loopg [23] n (fun g s23 wx=>∃ (i:Nat) (f:Nat->Int),i+g=n/\Aside (∀ j,f j=if j<i then F j else 0)/\s23=.int .i64 i/\wx=w.alloc (.cells (BARR n f) 5))
 case atStart=>exact ⟨0,fun _=>0,by omega,fun j=>by simp,rfl,rfl⟩
 case round=>
  obtain ⟨i,f,hig,A,rfl,rfl⟩:=hrel;cases gk with
  | zero=>
    obtain rfl:i=n:=by omega
    have hf:BARR i f=BARR i F:=za4 fun j hj=>by rw [A.out j,if_pos hj]
    rw [hf];clear hf A;go_wp2;go_ret2;exact ⟨rfl,rfl⟩
  | succ g=>
    have hi:(i:Int)<(n:Int):=by omega
    have hc:(BARR n f)[i]?=some (.int .u8 (f i)):=z2d n f i (by omega);have hs:∀ v,(BARR n f).setIfInBounds i (.int .u8 v)=BARR n (fun j=>if j=i then v else f j):=fun v=>z6D n f i v;obtain ⟨s,hsF,cs⟩:=CI.out i (by omega);go_wp2_with fail
    refine (cs _).mono ?_;rintro e w' ⟨rfl,rfl⟩;go_wp2;go_roundg g
    case measure=>omega
    case rel=>exact ⟨i+1,_,by omega,z5j A.out hsF.out,by go_num,rfl⟩
def BYTE (X n:Nat):Nat->Int:=fun i=>((X / 2 ^ (8*(n - 1 - i)) % 256:Nat):Int)
theorem zem (X n:Nat) (hX:X<2 ^ 64) (hn:n<=8) (h:X / 2 ^ (8*n)=0) (w:World):
  Calls Tryz.prog 130 #[.int .u64 (X:Int),.int .i64 (n:Int)] w fun e w'=>e=.returned (.tuple #[.slice (some ⟨w.heap.size,0,none⟩) n n,.int .i64 0])/\w.alloc (.cells (BARR n (BYTE X n)) 5)=w':=by
 refine z88 X n (BYTE X n) (by omega) w (fun w=>?_) (fun i hi=>?_)
 ·have k:=z38 X (8*(n:Int)) hX (by omega) (by omega) w
  have hs:SHR X (8*(n:Int))=0:=by
   unfold SHR;rw [if_neg (by omega),show (8*(n:Int)).toNat=8*n by omega,h]
  rw [hs] at k;exact k
 ·refine ⟨(SHR X (8*((n:Int) - 1 - (i:Int))):Nat),?_,fun w=>z38 X _ hX (by omega) (by omega) w⟩
  unfold SHR BYTE Aside;rw [if_neg (by omega),show (8*((n:Int) - 1 - (i:Int))).toNat=8*(n - 1 - i) by omega];simp
end Go.Proofs.YtdggkbpabjgdfaaGreatDoor
