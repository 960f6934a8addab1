/- ManyClashes: part 8. -/
import Derived.Deep.CutRange
import Derived.Great.BuildSlice
import Derived.Deep.Cut
import Derived.Maps.OwnSet
import Derived.DeepKeys4
import Derived.Test.YtobaogpomcocpaaGreatDoorManyClashesP7
set_option maxRecDepth 100000
set_option maxHeartbeats 4000000
open Go.RowKit
namespace Go.Proofs.YtobaogpomcocpaaGreatDoor
def Has(w:World)(g:Nat)(c:Array Value)(t:TypeId):Prop:=w.heap[g]?=some (.cells c t)
theorem Has.cell{w:World}{g:Nat}{c:Array Value}{t:TypeId}(h:Has w g c t)(i:Nat):w.cell? ⟨g,i,none⟩=c[i]?:=cell_of_row w g i c t _ h
theorem Has.lt{w:World}{g:Nat}{c:Array Value}{t:TypeId}(h:Has w g c t):g<w.heap.size:=(Array.getElem?_eq_some_iff.1 h).1
theorem Has.frozen{w:World}{g:Nat}{c:Array Value}{t:TypeId}(h:Has w g c t)(i:Nat):w.frozen? ⟨g,i,none⟩=false:=by
 have e:w.heap[g]?=some (.cells c t):=h;simp[World.frozen?,e]
theorem Has.set{w:World}{g:Nat}{c:Array Value}{t:TypeId}(h:Has w g c t)(i:Nat)(v:Value):Has (w.setCell ⟨g,i,none⟩ v) g (c.setIfInBounds i v) t:=by
 have e:w.heap[g]?=some (.cells c t):=h;unfold Has;rw[setCell_eq_setRow w g i c t _ v e,setRow_heap w g c _ t _ e]
theorem Has.other{w:World}{g:Nat}{c:Array Value}{t:TypeId}(h:Has w g c t){a:Addr}(ha:g≠a.block)(v:Value):Has (w.setCell a v) g c t:=by
 have e:w.heap[g]?=some (.cells c t):=h;unfold Has;rw[Below.heap_setCell w a v g ha,e]
theorem Has.below{B:Nat}{w w':World}{g:Nat}{c:Array Value}{t:TypeId}(h:Has w g c t)(hb:Below B w w')(hg:g<B):Has w' g c t:=(hb.block g hg).trans h
theorem Has.keep{w w':World}{g:Nat}{c:Array Value}{t:TypeId}(h:Has w g c t)(hb:Below w.heap.size w w'):Has w' g c t:=h.below hb h.lt
theorem Has.alloc{w:World}{g:Nat}{c:Array Value}{t:TypeId}(h:Has w g c t)(o:Obj):Has (w.alloc o) g c t:=by
 have e:w.heap[g]?=some (.cells c t):=h;unfold Has;rw[Below.heap_alloc w o g h.lt,e]
theorem Has.new(w:World)(c:Array Value)(t:TypeId):Has (w.alloc (.cells c t)) w.heap.size c t:=heap_alloc_new w _
theorem Has.at(w:World)(c:Array Value)(t:TypeId){g:Nat}(hg:g=w.heap.size):Has (w.alloc (.cells c t)) g c t:=by subst hg;exact Has.new w c t
theorem Has.row{w:World}{g:Nat}{c:Array Value}{t:TypeId}(h:Has w g c t)(c':Array Value):Has (w.setRow g c') g c' t:=setRow_heap w g c c' t _ h
theorem Has.row_other{w:World}{g k:Nat}{c:Array Value}{t:TypeId}(h:Has w g c t)(hk:g≠k)(c':Array Value):Has (w.setRow k c') g c t:=by
 have e:w.heap[g]?=some (.cells c t):=h;unfold Has;rw[setRow_other w k g c' hk,e]
theorem zm{B g:Nat}{w0 w:World}(hb:Below B w0 w)(hBg:B<=g)(cs:Array Value):Below B w0 (w.setRow g cs):=
 ⟨hb.os,hb.tape,hb.output,by have:=hb.size;simpa[World.setRow] using this,fun k hk=>by rw[setRow_other w g k cs (by omega)];exact hb.block k hk⟩
structure Four (w:World) (B:Nat) (K:Nat->Prop) (v:Nat->Value) (n:Nat->Nat) (xs:Nat->List Value):Prop where
 row:∀ x,x<4->w.ownsRow B 24 1 (v x) (n x) (xs x)
 apart:∀ x y,x<4->y<4->x≠y->∀ g,(v x).ownBlock=some g->(v y).ownBlock≠some g
 off:∀ x,x<4->∀ g,(v x).ownBlock=some g->¬ K g
def Flat(w:World)(a:Option Addr)(n:Nat)(l:List Int):Prop:=
 l.length=32*n/\(0<n->∃ b o,a=some ⟨b,o,none⟩/\b<w.heap.size/\∀ j,j<32*n->w.cell? ⟨b,o+j,none⟩=some (.int .u8 (l.getD j 0)))/\∀ x∈l,0<=x/\x<=255
theorem Flat.below{w w':World}{a:Option Addr}{n:Nat}{l:List Int}(h:Flat w a n l)(hb:Below w.heap.size w w'):Flat w' a n l:=
 ⟨h.1,fun hn=>by
  obtain⟨b,o,e,hl,hc⟩:=h.2.1 hn;exact⟨b,o,e,Nat.lt_of_lt_of_le hl hb.size,fun i hi=>(hb.cell (by exact hl)).trans (hc i hi)⟩,h.2.2⟩
def HSH(l:List Int)(i:Nat):List Int:=(l.drop (32*i)).take 32
theorem yq{l:List Int}{n i:Nat}(hl:l.length=32*n)(hi:i<n):(HSH l i).length=32:=by
 unfold HSH;rw[List.length_take,List.length_drop];omega
theorem Uk{l:List Int}{i j:Nat}(hj:j<32):(HSH l i).getD j 0=l.getD (32*i+j) 0:=by
 unfold HSH;rw[List.getD_eq_getElem?_getD,List.getElem?_take,if_pos hj,List.getElem?_drop,List.getD_eq_getElem?_getD]
theorem uv{l:List Int}{i:Nat}{x:Int}(h:x∈HSH l i):x∈l:=List.mem_of_mem_drop (List.mem_of_mem_take h)
theorem ZE(l:List Int)(i:Nat):l.take (32*(i+1))=l.take (32*i) ++ HSH l i:=by
 unfold HSH;rw[show 32*(i+1)=32*i+32 by omega,List.take_add]
theorem JK:(Tryz.prog.info? 23).map (·.size)=some 32:=by kernel_rfl
theorem zo{h:List Int}(hl:h.length=32):(Tryz.prog.info? 23).map (·.size)=some (za h).length:=by
 rw[JK,show (za h).length=32 by simp[za,hl]]
theorem zd{h:List Int}(hl:h.length=32):(Tryz.prog.info? 23).map (·.size)=some (za h).toArray.size:=by
 rw[JK,show (za h).toArray.size=32 by simp[za,hl]]
theorem zx(h:List Int):(za h).toArray.all (·.oneCell')=true:=by
 rw[Array.all_eq_true_iff_forall_mem];intro v hv;exact yf h v (by simpa using hv)
theorem Flat.at{w:World}{b o n:Nat}{l:List Int}{i:Nat}(h:Flat w (some ⟨b,o,none⟩) n l)(hi:i<n):w.rangeAt b (o+i*32) (za (HSH l i)):=by
 intro j v hv;obtain⟨b',o',e,_,hc⟩:=h.2.1 (by omega);simp only[Option.some.injEq,Addr.mk.injEq] at e;obtain⟨rfl,rfl,_⟩:=e
 have hj:j<32:=by
  have:=(List.getElem?_eq_some_iff.1 hv).1;rw[show (za (HSH l i)).length=32 by simp[za,yq h.1 hi]] at this;exact this
 rw[zN _ _ (by rw[yq h.1 hi];exact hj),Uk hj] at hv;rw[show o+i*32+j=o+(32*i+j) by omega,hc _ (by omega)];exact hv
theorem G9(w:World){h:List Int}(hl:h.length=32)(hr:∀ x∈h,0<=x/\x<=255)(t:TypeId):Bytes (w.alloc (.cells (za h).toArray t)) (some ⟨w.heap.size,0,none⟩) 32 h:=by
 refine⟨hl,fun _=>⟨w.heap.size,0,rfl,by simp,fun i hi=>?_⟩,hr⟩;rw[Nat.zero_add,World.cell?_alloc_at _ _ _ _ rfl,List.getElem?_toArray,zN h i (by omega)]
theorem ZQ(w:World)(x:Int):(w.alloc (.cells #[.int .u8 x] 5)).ownsRow w.heap.size 5 1 (.slice (some ⟨w.heap.size,0,none⟩) 1 1) 1 (za [x]):=
 World.ownsRow_lit w #[.int .u8 x] 1 (Nat.le_refl _) (by simp[maxLen]) rfl
theorem uw{w:World}{base n:Nat}{v:Value}{l:List Int}(h:w.ownsRow base 5 1 v n (za l)):l.length=n:=by
 have:=h.1;simpa[za] using this
theorem vh{w w':World}{r:Option Nat}(h:w.grownBy w' r):w.heap.size<=w'.heap.size:=by
 obtain⟨_,_,_,hs,_⟩:=h;exact hs
theorem ZF{ops:Array Oper}{o:Oper}{a:Act}{w w':World}{K:Act->World->Prop}{Q:Exit->Act->World->Prop}{E:Prop}{v:Value}(hg:o.guard=none)
  (hrun:(execOp a.eval o).run Tryz.prog w=.ok (.value v) w')(h:K (a.put o.dst v) w'):if Region.wanted o (yielded ops a.tmps)=true then Oper.wp Tryz.prog o a w K Q else E:=by
 have hw:Region.wanted o (yielded ops a.tmps)=true:=by simp[Region.wanted,hg]
 rw[if_pos hw];unfold Oper.wp;rw[hrun];exact h
theorem yt{ops:Array Oper}{o:Oper}{a:Act}{w w':World}{K:Act->World->Prop}{Q:Exit->Act->World->Prop}{E:Prop}(hg:o.guard=none)
  (hrun:(execOp a.eval o).run Tryz.prog w=.ok .skip w')(h:K (a.put o.dst undef) w'):if Region.wanted o (yielded ops a.tmps)=true then Oper.wp Tryz.prog o a w K Q else E:=by
 have hw:Region.wanted o (yielded ops a.tmps)=true:=by simp[Region.wanted,hg]
 rw[if_pos hw];unfold Oper.wp;rw[hrun];exact h
theorem VH{s:Sem Unit}{w w':World}(h:s.run Tryz.prog w=.ok () w'):(do s;pure Next.skip:Sem Next).run Tryz.prog w=.ok .skip w':=by
 simp[h]
theorem uz{ops:Array Oper}{Q:Exit->Act->World->Prop}{md:Region.Mode}{S:World->Prop}{fuel:Nat}{listed:Array Bool}{a:Act}{w:World}{o:Oper}(i:Nat)(hr:Region.ready md ops listed=[i])(ho:ops[i]?=some o)
  (h:∀ K':Act->World->Prop,Shut (∀ a w,S w->(S w->wpAnyH Tryz.prog md ops Q S fuel (listed.setIfInBounds i true) a w)->K' a w)->if Region.wanted o (yielded ops a.tmps)=true then Oper.wp Tryz.prog o a w K' Q else K' (a.put o.dst undef) w):wpAnyH Tryz.prog md ops Q S (fuel+1) listed a w:=
 wpAnyH_ready hr (by simp) (AllReadyH.cons ho h AllReadyH.nil)
theorem xS{s:Sem Value}{w w':World}{v:Value}(h:s.run Tryz.prog w=.ok v w'):(do pure (Next.value (<-s)):Sem Next).run Tryz.prog w=.ok (.value v) w':=by
 simp[h,Result.andThen]
theorem Xf{w w':World}{B:Nat}{t:TypeId}{s:Nat}{v:Value}{n:Nat}{xs:List Value}(h:w.ownsRow B t s v n xs)(hk:∀ k,v.ownBlock=some k->w'.heap[k]?=w.heap[k]?):w'.ownsRow B t s v n xs:=by
 refine⟨h.1,?_⟩;rcases h.2 with h | ⟨g,cap,cur,rfl,hb,hg,r⟩
 ·exact .inl h
 ·exact .inr ⟨g,cap,cur,rfl,hb,by rw[hk g rfl];exact hg,r⟩
def ZND:List Int:=List.replicate 32 0
abbrev ZARR:Array Value:=#[.int .u8 0,.int .u8 0,.int .u8 0,.int .u8 0,.int .u8 0,.int .u8 0,.int .u8 0,.int .u8 0,.int .u8 0,.int .u8 0,.int .u8 0,.int .u8 0,.int .u8 0,.int .u8 0,.int .u8 0,.int .u8 0,.int .u8 0,.int .u8 0,.int .u8 0,.int .u8 0,.int .u8 0,.int .u8 0,.int .u8 0,.int .u8 0,.int .u8 0,.int .u8 0,.int .u8 0,.int .u8 0,.int .u8 0,.int .u8 0,.int .u8 0,.int .u8 0]
theorem zQ:(za ZND).toArray=ZARR:=rfl
theorem yQ:(Tryz.prog.info? 23).map (fun i=>(i.zero,i.size,i.bytes))=some (some (.agg ZARR),32,32):=by kernel_rfl
theorem ma{ops:Array Oper}{rest:List Oper}{o:Oper}{a:Act}{Q:Exit->Act->World->Prop}(w:World)(hgd:o.guard=none)(s x:Operand)
  (ho:o.op=.call {callee:=.builtin .append,args:=#[s,x],argTypes:=#[26,26]})
  (base:Nat) (v:Value) (n:Nat) (xs:List Value) (hs:a.eval s=v) (hown:w.ownsRow base 23 32 v n xs)
  (b c:Nat) (y:List Int) (hl:y.length=32) (hx:a.eval x=.slice (some ⟨b,0,none⟩) 1 c) (hc:Has w b (za y).toArray 23)
  (hb:n<=100000) (hbase:base<=w.heap.size)
  (h:∀ g cap w',w'.ownsRow base 23 32 (.slice (some ⟨g,0,none⟩) (n+1) cap) (n+1) (xs ++ za y)->w.grownBy w' v.ownBlock->(v.ownBlock=some g\/g=w.heap.size)->g<w'.heap.size->wpList Tryz.prog ops Q rest (a.put o.dst (.slice (some ⟨g,0,none⟩) (n+1) cap)) w'):wpList Tryz.prog ops Q (o :: rest) a w:=by
 obtain⟨i,hi,hz,hs1,hby⟩:=info_parts yQ;refine wpList_append_lies w hgd s x 26 ho base 23 i (.agg ZARR) 32 32 Tryz.underlying26 hi hz hs1 hby rfl (by decide) v n xs hs hown ⟨b,0,none⟩ 1 c (za y) hx (by rw[za,List.length_map,hl]) ?_ (yf y) (by decide) (by simp only[maxLen];omega) (by omega) hbase w.heap.size rfl h;intro j u hj;rw[zY,Nat.zero_add,hc.cell,List.getElem?_toArray];exact hj
theorem jz{ops:Array Oper}{rest:List Oper}{o:Oper}{a:Act}{Q:Exit->Act->World->Prop}(w:World)(hgd:o.guard=none)(s x:Operand)
  (ho:o.op=.call {callee:=.builtin .append,args:=#[s,x],argTypes:=#[26,26]})
  (base:Nat) (v:Value) (n:Nat) (xs:List Value) (hs:a.eval s=v) (hown:w.ownsRow base 23 32 v n xs)
  (b c:Nat) (y:List Int) (hl:y.length=32) (hx:a.eval x=.slice (some ⟨b,0,none⟩) 1 c) (hc:Has w b (za y).toArray 23)
  (hb:n<=1000) (hbase:base<=w.heap.size)
  (h:∀ g cap w',w'.ownsRow base 23 32 (.slice (some ⟨g,0,none⟩) (n+1) cap) (n+1) (xs ++ za y)->w.grownBy w' v.ownBlock->(v.ownBlock=some g\/g=w.heap.size)->g<w'.heap.size->wpList Tryz.prog ops Q rest (a.put o.dst (.slice (some ⟨g,0,none⟩) (n+1) cap)) w'):wpList Tryz.prog ops Q (o :: rest) a w:=
 ma w hgd s x ho base v n xs hs hown b c y hl hx hc (by omega) hbase h
theorem yM{ops:Array Oper}{rest:List Oper}{o:Oper}{a:Act}{Q:Exit->Act->World->Prop}(w:World)(hg:o.guard=none)(t e:TypeId)(x:Operand)(ho:o.op=.buildSlice t 1 #[(0,x)])(C:Array Value)(hx:a.eval x=.agg C)(n:Nat)(z:Value)(by':Nat)
  (hu:Tryz.prog.underlying t=some (.slice e))(hi:(Tryz.prog.info? e).map (fun i=>(i.zero,i.size,i.bytes))=some (some z,n,by'))(hC:C.size=n)(hz:z.cells.size=n)(hn:0<n)(hs:n<=1000)
  (h:wpList Tryz.prog ops Q rest (a.put o.dst (.slice (some ⟨w.heap.size,0,none⟩) 1 1)) (w.alloc (.cells C e))):wpList Tryz.prog ops Q (o :: rest) a w:=by
 obtain⟨i,hie,hz',hs1,_⟩:=info_parts hi;refine wpList_buildSlice hg t e 1 _ ho C i z hu hie hz' (by rw[hs1];omega) (by rw[hs1];omega) ?_ h;have:=Great.fill_whole (s:=n) hn [.agg C] ((Array.range (1*i.size)).map (z.cells[· % z.cells.size]!)) (fun v hv=>by simp at hv;subst hv;exact hC) (by simp[hs1]);simp[Value.cells] at this;rw[hs1];simp[hx];rw[hs1] at this;exact this
theorem JL(d:Nat)(h g:List Int)(hh:h.length=32)(hg:g.length=32)(w:World):∀ is:List Nat,(∀ i∈is,i<32)->(Op.eqItems (d+1) 5 1 (za h).toArray (za g).toArray is).run Tryz.prog w=.ok (is.all fun i=>h.getD i 0 == g.getD i 0) w
 | [],_=>by simp[Op.eqItems]
 | i :: is,hi=>by
   have hp:Tryz.prog.plainKey 5=true:=by kernel_rfl
   have hi32:i<32:=hi i (by simp);have h1:=run_part_plain (P:=Tryz.prog) w hp (show (za h).toArray[i]?=some (.int .u8 (h.getD i 0)) by rw[List.getElem?_toArray,zN h i (by omega)]);have h2:=run_part_plain (P:=Tryz.prog) w hp (show (za g).toArray[i]?=some (.int .u8 (g.getD i 0)) by rw[List.getElem?_toArray,zN g i (by omega)]);have h3:=run_equalIn_int (P:=Tryz.prog) w d 5 .u8 .u8 (h.getD i 0) (g.getD i 0) Tryz.underlying5;have ih:=JL d h g hh hg w is (fun j hj=>hi j (by simp[hj]));rw[Op.eqItems,Nat.mul_one];simp only[Sem.run_bind,h1,h2,h3,Result.andThen_ok];by_cases e:h.getD i 0=g.getD i 0
   ·have e2:(h.getD i 0 == g.getD i 0)=true:=by simpa using e
    rw[List.all_cons,e2,Bool.true_and,if_neg (by simp)];exact ih
   ·have e2:(h.getD i 0 == g.getD i 0)=false:=by simpa using e
    rw[List.all_cons,e2];simp
theorem kS(h g:List Int)(hh:h.length=32)(hg:g.length=32)(w:World):(Op.equalIn 10000 23 (.agg (za h).toArray) (.agg (za g).toArray)).run Tryz.prog w=.ok ((List.range 32).all fun i=>h.getD i 0 == g.getD i 0) w:=by
 obtain⟨i8,hi,_⟩:=Option.map_eq_some_iff.1 zU;rw[run_equalIn_array (P:=Tryz.prog) w 9999 (za h).toArray (za g).toArray Tryz.underlying23 hi];have hc:Tryz.prog.cellsOf 5=1:=by kernel_rfl
 rw[hc];exact JL 9998 h g hh hg w _ (fun i hi=>by simpa using hi)
theorem mb{h g:List Int}(hh:h.length=32)(hg:g.length=32):((List.range 32).all fun i=>h.getD i 0 == g.getD i 0)=decide (h=g):=by
 by_cases e:h=g
 ·subst e
  simp
 ·rw[decide_eq_false e,Bool.eq_false_iff]
  intro hx;rw[List.all_eq_true] at hx;apply e;apply List.ext_getElem (by omega);intro i h1 h2;have:=hx i (by simp;omega);simpa[List.getD,h1,h2] using this
theorem jZ{h g:List Int}(hh:h.length=32)(hg:g.length=32)(w:World):(Op.equalIn 10000 23 (.agg (za h).toArray) (.agg (za g).toArray)).run Tryz.prog w=.ok (decide (h=g)) w:=by
 rw[kS h g hh hg,mb hh hg]
theorem vi{h g:List Int}(hh:h.length=32)(hg:g.length=32)(x y:Operand)(w:World):(do eqGuard .neq 23 x y (.agg (za h).toArray) (.agg (za g).toArray);binOp .neq 23 (.agg (za h).toArray) (.agg (za g).toArray):Sem Value).run Tryz.prog w=.ok (.bool (!decide (h=g))) w:=by
 simp only[Sem.run_bind,run_eqGuard_agg (P:=Tryz.prog) w .neq 23 x y _ _ (by kernel_rfl),Result.andThen_ok,run_neq_struct,jZ hh hg]
theorem gI{h g:List Int}(hh:h.length=32)(hg:g.length=32)(x y:Operand)(w:World):(do eqGuard .eql 23 x y (.agg (za h).toArray) (.agg (za g).toArray);binOp .eql 23 (.agg (za h).toArray) (.agg (za g).toArray):Sem Value).run Tryz.prog w=.ok (.bool (decide (h=g))) w:=by
 simp only[Sem.run_bind,run_eqGuard_agg (P:=Tryz.prog) w .eql 23 x y _ _ (by kernel_rfl),Result.andThen_ok,run_eql_struct,jZ hh hg]
def LST(f:Nat->Nat):List Int:=(List.range 32).map fun i=>((f i:Nat):Int)
def FNC(h:List Int)(i:Nat):Nat:=(h.getD i 0).toNat
def IsH(h:List Int):Prop:=h.length=32/\∀ x∈h,0<=x/\x<=255
theorem vj(f:Nat->Nat):(LST f).length=32:=by simp[LST]
theorem Ya{f:Nat->Nat}(h:∀ i,f i<256):IsH (LST f):=⟨vj f,fun x hx=>by
 obtain⟨i,_,rfl⟩:=List.mem_map.1 hx;have:=h i;omega⟩
theorem xq(f:Nat->Nat):HX.UARR .u8 32 f=(za (LST f)).toArray:=by
 unfold HX.UARR za LST;rw[List.map_map];rfl
theorem XH{h:List Int}(hh:IsH h):LST (FNC h)=h:=by
 apply List.ext_getElem (by rw[vj,hh.1]);intro i h1 h2;simp only[LST,List.getElem_map,List.getElem_range,FNC];have:=hh.2 h[i] (List.getElem_mem h2);rw[List.getD_eq_getElem?_getD,List.getElem?_eq_getElem h2,Option.getD_some];omega
theorem zX{h:List Int}(hh:IsH h):(za h).toArray=HX.UARR .u8 32 (FNC h):=by rw[xq,XH hh]
theorem yl{h:List Int}(hh:IsH h)(i:Nat):FNC h i<256:=by
 unfold FNC;by_cases hi:i<h.length
 ·rw[List.getD_eq_getElem?_getD,List.getElem?_eq_getElem hi,Option.getD_some]
  have:=hh.2 h[i] (List.getElem_mem hi);omega
 ·rw[List.getD_eq_getElem?_getD,List.getElem?_eq_none (by omega)]
  decide
def NATS(h:List Int):List Nat:=(List.range 32).map (FNC h)
def zp(d:Int)(l r:List Int):List Int:=LST (HX.zu d (1 :: (NATS l ++ NATS r)))
def zW(d:Int)(l r:List Int):List Int:=LST (HX.zu d (2 :: (NATS l ++ NATS r)))
def zy(d:Int)(n:Nat)(r:List Int):List Int:=LST (HX.zu d (3 :: (HX.BE8 n ++ NATS r)))
theorem xC(d:Int)(l r:List Int):IsH (zp d l r):=Ya fun i=>HX.qL d _ _ i
theorem Xg(d:Int)(l r:List Int):IsH (zW d l r):=Ya fun i=>HX.qL d _ _ i
theorem qM(d:Int)(n:Nat)(r:List Int):IsH (zy d n r):=Ya fun i=>HX.qL d _ _ i
theorem VI(d:Int)(l r:List Int)(hl:IsH l)(hr:IsH r)(w:World)(hT:HX.Tabled w):Calls Tryz.prog 116 #[.int .i64 d,.agg (za l).toArray,.agg (za r).toArray] w fun e w'=>e=.returned (.agg (za (zp d l r)).toArray)/\Below w.heap.size w w':=by
 rw[zX hl,zX hr];refine(HX.z1p d (FNC l) (FNC r) (yl hl) (yl hr) w hT).mono ?_;rintro e w' ⟨rfl,hb⟩;exact⟨by rw[xq];rfl,hb⟩
theorem M6(d:Int)(l r:List Int)(hl:IsH l)(hr:IsH r)(w:World)(hT:HX.Tabled w):Calls Tryz.prog 108 #[.int .i64 d,.agg (za l).toArray,.agg (za r).toArray] w fun e w'=>e=.returned (.agg (za (zW d l r)).toArray)/\Below w.heap.size w w':=by
 rw[zX hl,zX hr];refine(HX.z1q d (FNC l) (FNC r) (yl hl) (yl hr) w hT).mono ?_;rintro e w' ⟨rfl,hb⟩;exact⟨by rw[xq];rfl,hb⟩
theorem M7(d:Int)(n:Nat)(hn:n<2 ^ 64)(r:List Int)(hr:IsH r)(w:World)(hT:HX.Tabled w):Calls Tryz.prog 76 #[.int .i64 d,.int .u64 (n:Int),.agg (za r).toArray] w fun e w'=>e=.returned (.agg (za (zy d n r)).toArray)/\Below w.heap.size w w':=by
 rw[zX hr];refine(HX.z1r d n hn (FNC r) (yl hr) w hT).mono ?_;rintro e w' ⟨rfl,hb⟩;exact⟨by rw[xq];rfl,hb⟩
def SLA(a:Option Addr)(c k:Nat):Option Addr:=match a with
 | none=>none
 | some ad=>if c=k then some ad else some ⟨ad.block,ad.off+k*32,none⟩
theorem UZ(b off n c k:Nat)(hk:k<=n)(hc:n<=c)(w:World):(Instr.slice 26 (.slice (some ⟨b,off,none⟩) n c) (some (.int .i64 (k:Int))) none none).run Tryz.prog w=.ok (.slice (SLA (some ⟨b,off,none⟩) c k) (n - k) (c - k)) w:=by
 have k1:(k:Int)<=(n:Int):=by omega
 by_cases e:c=k
 ·obtain rfl:n=c:=by omega
  subst e;simp[SLA,go_sem]
 ·simp[SLA,e,go_sem,k1,Addr.add]
theorem Flat.behind{w:World}{a:Option Addr}{n c:Nat}{l:List Int}(h:Flat w a n l)(k:Nat)(hk:k<=n)(hc:n<=c):Flat w (SLA a c k) (n - k) (l.drop (32*k)):=by
 refine⟨by rw[List.length_drop,h.1];omega,fun h0=>?_,fun x hx=>h.2.2 x (List.mem_of_mem_drop hx)⟩;obtain⟨b,o,rfl,hb,hcs⟩:=h.2.1 (by omega);have hck:¬ c=k:=by omega
 refine⟨b,o+k*32,by simp[SLA,hck],hb,fun j hj=>?_⟩;rw[show o+k*32+j=o+(32*k+j) by omega,hcs (32*k+j) (by omega)];congr 2
 rw[List.getD_eq_getElem?_getD,List.getD_eq_getElem?_getD,List.getElem?_drop]
def MUP(d:Int):Nat->Nat->List Nat->List Int->List Int->List Int × List Int × List Int
 | _,_,[],lv,nd=>(HSH nd 0,lv,nd.drop 32)
 | 0,_,_ :: _,lv,nd=>(HSH lv 0,lv.drop 32,nd)
 | h + 1,k,x :: l,lv,nd=>
   (zp d (MUP d h (2*k) ((x :: l).filter fun y=>decide (y<(2*k+1)*2 ^ h)) lv nd).1
     (MUP d h (2*k+1) ((x :: l).filter fun y=>!decide (y<(2*k+1)*2 ^ h)) (MUP d h (2*k) ((x :: l).filter fun y=>decide (y<(2*k+1)*2 ^ h)) lv nd).2.1 (MUP d h (2*k) ((x :: l).filter fun y=>decide (y<(2*k+1)*2 ^ h)) lv nd).2.2).1,
    (MUP d h (2*k+1) ((x :: l).filter fun y=>!decide (y<(2*k+1)*2 ^ h)) (MUP d h (2*k) ((x :: l).filter fun y=>decide (y<(2*k+1)*2 ^ h)) lv nd).2.1 (MUP d h (2*k) ((x :: l).filter fun y=>decide (y<(2*k+1)*2 ^ h)) lv nd).2.2).2)
theorem uA(d:Int)(h k:Nat)(lv nd:List Int):MUP d h k [] lv nd=(HSH nd 0,lv,nd.drop 32):=by cases h <;> rfl
theorem qN{d:Int}{h k r:Nat}{L:List Nat}{lv nd:List Int}(hL:L≠[])(hr:RANKS L ((2*k+1)*2 ^ h) r):
  MUP d (h+1) k L lv nd=(zp d (MUP d h (2*k) (L.take r) lv nd).1 (MUP d h (2*k+1) (L.drop r) (MUP d h (2*k) (L.take r) lv nd).2.1 (MUP d h (2*k) (L.take r) lv nd).2.2).1,(MUP d h (2*k+1) (L.drop r) (MUP d h (2*k) (L.take r) lv nd).2.1 (MUP d h (2*k) (L.take r) lv nd).2.2).2):=by
 cases L with
 | nil=>exact absurd rfl hL
 | cons x l=>rw[hr.take,hr.drop];rfl
theorem yv:∀ {L:List Nat},RISES L->∀ t,∃ r,RANKS L t r
 | [],_,t=>⟨0,by simp,(fun i x h=>by omega),fun i x _ h=>by simp at h⟩
 | x :: l,hR,t=>by
   by_cases hx:x<t
   ·obtain⟨r,hr⟩:=yv (L:=l) (fun i j a b hij ha hb=>hR (i+1) (j+1) a b (by omega) (by simpa using ha) (by simpa using hb)) t
    refine⟨r+1,by have:=hr.le;simp;omega,fun i y hi hy=>?_,fun i y hi hy=>?_⟩
    ·cases i with
     | zero=>simp at hy;omega
     | succ i=>exact hr.lo i y (by omega) (by simpa using hy)
    ·cases i with
     | zero=>omega
     | succ i=>exact hr.hi i y (by omega) (by simpa using hy)
   ·refine⟨0,Nat.zero_le _,(fun i y h=>by omega),fun i y _ hy=>?_⟩
    cases i with
    | zero=>simp at hy;omega
    | succ i=>have:=hR 0 (i+1) x y (by omega) rfl hy;omega
def UNR(h k:Nat)(L:List Nat):Prop:=RISES L/\∀ x∈L,k*2 ^ h<=x/\x<(k+1)*2 ^ h
theorem UNR.leaf{k x:Nat}{l:List Nat}(h:UNR 0 k (x :: l)):l=[]:=by
 cases l with
 | nil=>rfl
 | cons y m=>
   have h1:=h.1 0 1 x y (by omega) rfl rfl;have h2:=h.2 x (by simp);have h3:=h.2 y (by simp);simp at h2 h3;omega
theorem Js(h k:Nat):(2*k)*2 ^ h=k*2 ^ (h+1)/\(2*k+1+1)*2 ^ h=(k+1)*2 ^ (h+1):=by
 rw[Nat.pow_succ];constructor
 ·rw[Nat.mul_comm 2 k,Nat.mul_assoc,Nat.mul_comm 2]
 ·rw[show 2*k+1+1=2*(k+1) by omega,Nat.mul_comm 2 (k+1),Nat.mul_assoc,Nat.mul_comm 2]
theorem UNR.left{h k r:Nat}{L:List Nat}(hL:UNR (h+1) k L)(hr:RANKS L ((2*k+1)*2 ^ h) r):UNR h (2*k) (L.take r):=by
 refine⟨hL.1.take r,fun x hx=>?_⟩;have h1:=hL.2 x (List.mem_of_mem_take hx);obtain⟨i,hi⟩:=List.getElem?_of_mem hx;rw[List.getElem?_take] at hi;split at hi
 ·rename_i hlt
  have h2:=hr.lo i x hlt hi;have h3:=Js h k;omega
 ·cases hi
theorem UNR.right{h k r:Nat}{L:List Nat}(hL:UNR (h+1) k L)(hr:RANKS L ((2*k+1)*2 ^ h) r):UNR h (2*k+1) (L.drop r):=by
 refine⟨hL.1.drop r,fun x hx=>?_⟩;have h1:=hL.2 x (List.mem_of_mem_drop hx);obtain⟨i,hi⟩:=List.getElem?_of_mem hx;rw[List.getElem?_drop] at hi;have h2:=hr.hi (r+i) x (by omega) hi;have h3:=Js h k;omega
def HSS(n:Nat)(l:List Int):Prop:=l.length=32*n/\∀ x∈l,0<=x/\x<=255
theorem HSS.first{n:Nat}{l:List Int}(h:HSS n l)(hn:0<n):IsH (HSH l 0):=by
 refine⟨?_,fun x hx=>h.2 x (List.mem_of_mem_drop (List.mem_of_mem_take hx))⟩;unfold HSH;rw[List.length_take,List.length_drop,h.1];omega
theorem HSS.rest{n:Nat}{l:List Int}(h:HSS n l):HSS (n - 1) (l.drop 32):=⟨by rw[List.length_drop,h.1];omega,fun x hx=>h.2 x (List.mem_of_mem_drop hx)⟩
theorem yj(d:Int):∀ (h k:Nat) (L:List Nat) (lv nd:List Int) (i j:Nat),UNR h k L->HSS i lv->HSS j nd->L.length<=i->(NEED h k L).length<=j->
    IsH (MUP d h k L lv nd).1/\HSS (i - L.length) (MUP d h k L lv nd).2.1/\HSS (j - (NEED h k L).length) (MUP d h k L lv nd).2.2:=by
  intro h;induction h with
  | zero=>
    intro k L lv nd i j hU hi hj h1 h2;cases L with
    | nil=>rw[yh] at h2 ⊢;exact⟨hj.first h2,hi,hj.rest⟩
    | cons x l=>
      obtain rfl:=hU.leaf;exact⟨hi.first h1,hi.rest,hj⟩
  | succ h ih=>
    intro k L lv nd i j hU hi hj h1 h2;by_cases hL:L=[]
    · subst hL
      rw[yh] at h2 ⊢;exact⟨hj.first h2,hi,hj.rest⟩
    · obtain⟨r,hr⟩:∃ r,RANKS L ((2*k+1)*2 ^ h) r:=yv hU.1 _
      have hN:=xR hL hr;rw[hN,List.length_append] at h2;have hle:=hr.le;have q1:=ih (2*k) (L.take r) lv nd i j (hU.left hr) hi hj (by rw[List.length_take];omega) (by omega);have q2:=ih (2*k+1) (L.drop r) _ _ _ _ (hU.right hr) q1.2.1 q1.2.2 (by rw[List.length_take,List.length_drop];omega) (by omega);rw[qN hL hr,hN,List.length_append];refine⟨xC _ _ _,?_,?_⟩
      · have:=q2.2.1
        rwa [List.length_take,List.length_drop,show i - min r L.length - (L.length - r)=i - L.length by omega] at this
      · have:=q2.2.2
        rwa [Nat.sub_sub] at this
def MUPS(d:Int):List (Nat × Nat)->List Nat->List Int->List Int->List Int
 | [],_,_,_=>[]
 | (h,k) :: ps,L,lv,nd=>(MUP d h k (L.filter fun y=>decide (y<(k+1)*2 ^ h)) lv nd).1 ++ MUPS d ps (L.filter fun y=>!decide (y<(k+1)*2 ^ h)) (MUP d h k (L.filter fun y=>decide (y<(k+1)*2 ^ h)) lv nd).2.1 (MUP d h k (L.filter fun y=>decide (y<(k+1)*2 ^ h)) lv nd).2.2
theorem qF{d:Int}{h k r:Nat}{L:List Nat}{lv nd:List Int}(ps:List (Nat × Nat))(hr:RANKS L ((k+1)*2 ^ h) r):MUPS d ((h,k) :: ps) L lv nd=(MUP d h k (L.take r) lv nd).1 ++ MUPS d ps (L.drop r) (MUP d h k (L.take r) lv nd).2.1 (MUP d h k (L.take r) lv nd).2.2:=by
 rw[MUPS,hr.take,hr.drop]
def TOLD(S P:List Nat->World->Prop)(X:List PanicEntry)(acc l:List Nat)(e:Ending)(w':World):Prop:=(e=.returned (.tuple #[])/\S (acc ++ l) w')\/∃ pre p,(pre ++ [p]) <+: (acc ++ l)/\e=.panicked X/\P pre w'
structure SPLIT (w w':World) (a:Option Addr) (n c:Nat) (L:List Nat) (t r:Nat) (a':Option Addr):Prop where
 rank:RANKS L t r
 lies:NUML w a' (L.drop r)
 nil:a'=none->c - r=0
 block:∀ x,a'=some x->∃ y,a=some y/\x.block=y.block
 spot:∀ x,a'=some x->x.spot=none
 below:Below w.heap.size w w'
theorem yU(h k:Nat)(hN:Node h k)(a:Option Addr)(n c:Nat)(L:List Nat)(hl:L.length=n)(hn:n<2 ^ 40)(hR:RISES L)(hc:n<=c)(hnil:a=none->c=0)(hsp:∀ x,a=some x->x.spot=none)(w:World)(hL:NUML w a L):
   Calls Tryz.prog 79 #[.slice a n c,.int .u64 ((PLC h k:Nat):Int)] w fun e w'=>∃ r a',e=.returned (.tuple #[.slice a r c,.slice a' (n - r) (c - r)])/\SPLIT w w' a n c L ((k+1)*2 ^ h) r a':=by
 have cu:=MC h k hN w;obtain⟨t,ht⟩:∃ t,(k+1)*2 ^ h=t:=⟨_,rfl⟩
 rw[ht] at cu ⊢;have HA:Aside (L.length=n/\n<2 ^ 40/\RISES L/\NUML w a L/\n<=c):=⟨hl,hn,hR,hL,hc⟩
 have NI:Aside (a=none->c=0):=hnil;have SP:Aside (∀ x,a=some x->x.spot=none):=hsp;clear hl hn hR hL hc hnil hsp ht;go_enter Tryz.func79,Tryz.ntmps79;go_wp2_with fail
 refine cu.mono ?_;rintro e w1 ⟨rfl,hb1⟩;clear cu
 have cs:=GT a n c L t HA.out.1 HA.out.2.1 HA.out.2.2.1 w1 (fun h0=>by
   obtain⟨b,o,e,hl,hc⟩:=HA.out.2.2.2.1 h0;exact⟨b,o,e,Nat.lt_of_lt_of_le hl hb1.size,fun i x hx=>(hb1.cell (p:=⟨b,o+i,none⟩) hl).trans (hc i x hx)⟩)
 have B1:Aside (Below w.heap.size w w1):=hb1;clear hb1;go_wp2_with fail
 refine cs.mono ?_;rintro e w2 ⟨r,f,rfl,hr,rfl⟩;clear cs;have hrn:r<=n:=by have:=hr.le;have:=HA.out.1;omega
 have y1:(r:Int)<=(c:Int):=by have:=HA.out.2.2.2.2;omega
 have y2:(r:Int)<=(n:Int):=by omega
 have y3:(0:Int)<=(r:Int):=by omega
 have RK:Aside (RANKS L t r):=hr;clear hr;cases a with
 | none=>
   have h0:=NI.out rfl;subst h0;have hr0:r=0:=by omega
   subst hr0;have hn0:n=0:=by have:=HA.out.2.2.2.2;omega
   subst hn0;have FN:Aside (∀ W,Below w.heap.size w W->SPLIT w W none 0 0 L t 0 none):=fun W hb=>⟨RK.out,fun h=>by have:=HA.out.1;simp at h;omega,fun _=>rfl,(fun x e=>by cases e),(fun x e=>by cases e),hb⟩
   clear HA NI SP RK;go_upto_region 3 with fail
   go_quiet (fail)
   go_wp2;go_ret2;exact⟨0,none,rfl,FN.out _ (below_drewN B1.out _)⟩
 | some x=>
   obtain⟨b,o,sp⟩:=x;have hsp:sp=none:=SP.out _ rfl;subst hsp;by_cases hcr:c=r
   ·have FN:Aside (∀ W,Below w.heap.size w W->SPLIT w W (some ⟨b,o,none⟩) n c L t r (some ⟨b,o,none⟩)):=fun W hb=>⟨RK.out,fun h=>by have:=HA.out.1;have:=HA.out.2.2.2.2;simp at h;omega,(fun e=>by cases e),(fun x e=>⟨_,rfl,by cases e;rfl⟩),(fun x e=>by cases e;rfl),hb⟩
    clear HA NI SP RK;go_upto_region 3 with fail
    go_quiet (fail)
    go_wp2;go_ret2;exact⟨r,_,by rw[hcr,Nat.sub_self];rfl,FN.out _ (below_drewN B1.out _)⟩
   ·have FN:Aside (∀ W,Below w.heap.size w W->SPLIT w W (some ⟨b,o,none⟩) n c L t r (some ⟨b,o+r,none⟩)):=fun W hb=>by
     refine⟨RK.out,fun h=>?_,(fun e=>by cases e),(fun x e=>⟨_,rfl,by cases e;rfl⟩),(fun x e=>by cases e;rfl),hb⟩;obtain⟨b',o',e,hl,hc⟩:=HA.out.2.2.2.1 (by simp at h;omega);cases e;refine⟨b,o+r,rfl,hl,fun i x hx=>?_⟩;rw[List.getElem?_drop] at hx;rw[Nat.add_assoc];exact hc (r+i) x hx
    clear HA NI SP RK;go_upto_region 3 with fail
    go_quiet (fail)
    go_wp2;go_ret2;exact⟨r,_,rfl,FN.out _ (below_drewN B1.out _)⟩
end Go.Proofs.YtobaogpomcocpaaGreatDoor
namespace Go.Proofs.YtobaogpomcocpaaGreatDoor
open Go.Maps
theorem M8:laidOutB Tryz.prog=true:=by kernel_rfl
def RV(v:Value):Option (DataW Value × List MemPlace):=some (.held v,[])
end Go.Proofs.YtobaogpomcocpaaGreatDoor
namespace Go.Proofs.YtobaogpomcocpaaGreatDoor
def BUT(bc:Nat)(w w':World):Prop:=(∀ q,q<w.heap.size->q≠bc->w'.heap[q]?=w.heap[q]?)/\Below bc w w'
theorem BUT.refl(bc:Nat)(w:World):BUT bc w w:=⟨fun _ _ _=>rfl,Below.refl _ _⟩
theorem BUT.trans{bc:Nat}{w w1 w2:World}(h:BUT bc w w1)(h':BUT bc w1 w2):BUT bc w w2:=
 ⟨fun q hq hne=>(h'.1 q (Nat.lt_of_lt_of_le hq h.2.size) hne).trans (h.1 q hq hne),h.2.trans h'.2⟩
theorem BUT.of_below{bc:Nat}{w w':World}(hb:Below w.heap.size w w')(hc:bc<=w.heap.size):BUT bc w w':=⟨fun q hq _=>hb.block q hq,hb.mono hc⟩
theorem Flat.but{bc:Nat}{w w':World}{a:Option Addr}{n:Nat}{l:List Int}(h:Flat w a n l)(hb:BUT bc w w')(ha:∀ x,a=some x->x.block≠bc):Flat w' a n l:=by
 refine⟨h.1,fun h0=>?_,h.2.2⟩;obtain⟨b,o,e,hlt,hc⟩:=h.2.1 h0;exact⟨b,o,e,Nat.lt_of_lt_of_le hlt hb.2.size,fun j hj=>(World.cell?_of_block (w:=w) (by exact hb.1 b hlt (ha _ e))).trans (hc j hj)⟩
theorem xL{fn:Func}{p:Tmp}{ty:TypeId}(h:fn.results=#[.cell p ty])(tmps:Array Value)(w:World)(g:Nat)(t:TypeId)(cs:Array Value)(fr:Nat × Nat)(k:Nat)(el:TypeId)
  (hp:tmps.getD p undef=.pointer (some ⟨g,0,none⟩))(hg:w.heap[g]?=some (.cells cs t fr))
  (hu:Tryz.prog.underlying ty=some (.array k el))(hi:(Tryz.prog.info? ty).map (·.size)=some cs.size):
  (results fn tmps).run Tryz.prog w=.ok (.agg cs) w:=by
 have hp':tmps[p]?.getD undef=.pointer (some ⟨g,0,none⟩):=by simpa using hp
 simp[results,h,hp',asAddr,run_loadVar_row w g t ty cs fr (.array k el) hg hu rfl hi]
theorem YW(b off n c:Nat)(hk:0<n)(hc:n<=c)(w:World):(Instr.slice 26 (.slice (some ⟨b,off,none⟩) n c) (some (.int .i64 1)) none none).run Tryz.prog w=.ok (.slice (SLA (some ⟨b,off,none⟩) c 1) (n - 1) (c - 1)) w:=UZ b off n c 1 hk hc w
theorem ZR(bc i b o n c:Nat)(l:List Int)(cs:Array Value)(w:World)(hH:Has w bc cs 118)(hi:cs[i]?=some (.slice (some ⟨b,o,none⟩) n c))(hn:0<n)(hc:n<=c)(hb:b≠bc)(hF:Flat w (some ⟨b,o,none⟩) n l):
  Calls Tryz.prog 114 #[.pointer (some ⟨bc,i,none⟩)] w fun e w'=>e=.returned (.agg (za (HSH l 0)).toArray)/\Has w' bc (cs.setIfInBounds i (.slice (SLA (some ⟨b,o,none⟩) c 1) (n - 1) (c - 1))) 118/\BUT bc w w':=by
 have y32:=yq hF.1 hn;have hbl:=hH.lt;obtain⟨W0,hW0⟩:∃ W0,w.alloc (.cells ZARR 23)=W0:=⟨_,rfl⟩
 obtain⟨b2,hb2⟩:∃ b2,w.heap.size=b2:=⟨_,rfl⟩
 have R0:Aside (Below w.heap.size w W0/\Has W0 b2 (za ZND).toArray 23/\Has W0 bc cs 118/\bc<b2/\w.heap.size=b2):=by
  rw[<-hW0,<-hb2];exact⟨(Below.refl _ _).alloc (Nat.le_refl _) _,by rw[zQ];exact Has.new _ _ _,hH.alloc _,hbl,rfl⟩
 have hlt:(0:Int)<(n:Int):=by omega
 have hat:W0.rangeAt b (o+0*32) (za (HSH l 0)):=(hF.below R0.out.1).at hn;have x0:W0.cell? ⟨bc,i,none⟩=some (.slice (some ⟨b,o,none⟩) n c):=(R0.out.2.2.1.cell i).trans hi;have hsl:Aside (∀ w,(Instr.slice 26 (.slice (some ⟨b,o,none⟩) n c) (some (.int .i64 1)) none none).run Tryz.prog w=.ok (.slice (SLA (some ⟨b,o,none⟩) c 1) (n - 1) (c - 1)) w):=YW b o n c hn hc;have B:Aside (b≠bc):=hb;have HI:Aside (cs[i]?=some (.slice (some ⟨b,o,none⟩) n c)):=hi;clear hF hn hc hH hbl hb hi;generalize HSH l 0=Y at *
 generalize SLA (some ⟨b,o,none⟩) c 1=a' at *
 generalize n - 1=n' at *
 generalize c - 1=c' at *
 go_enter Tryz.func114,Tryz.ntmps114
 go_upto_region 2 with (first
  | (refine wpList_load_mid rfl 23 (.tmp 7) rfl b (o+0*32) rfl (za Y) _ hat Tryz.underlying23 rfl (zo y32) ?_)
  | (refine wpList_store_row rfl 23 (.tmp 3) (.tmp 8) rfl _ _ rfl rfl 23 _ (Has.new W0 _ _) (zd y32) (by simp[za,y32]) (zx Y) ?_;rw[World.setRow_alloc_new]))
 clear hW0 hat x0 hlt;have R1:Aside (Below w.heap.size w (W0.alloc (.cells (za Y).toArray 23))/\Has (W0.alloc (.cells (za Y).toArray 23)) b2 (za ZND).toArray 23/\Has (W0.alloc (.cells (za Y).toArray 23)) W0.heap.size (za Y).toArray 23/\Has (W0.alloc (.cells (za Y).toArray 23)) bc cs 118/\b2<W0.heap.size):=⟨R0.out.1.alloc R0.out.1.size _,R0.out.2.1.alloc _,Has.new _ _ _,R0.out.2.2.1.alloc _,R0.out.2.1.lt⟩
 generalize W0.alloc (.cells (za Y).toArray 23)=W1 at *
 generalize W0.heap.size=b3 at *
 have x1:W1.cell? ⟨bc,i,none⟩=some (.slice (some ⟨b,o,none⟩) n c):=(R1.out.2.2.2.1.cell i).trans HI.out;have f1:=R1.out.2.2.2.1.frozen i;have hs2:=hsl.out;obtain⟨V,hV⟩:∃ V,Value.slice a' n' c'=V:=⟨_,rfl⟩
 have H3:Has (W1.setCell ⟨bc,i,none⟩ V) b3 (za Y).toArray 23:=R1.out.2.2.1.other (by show b3≠bc;have:=R1.out.2.2.2.2;have:=R0.out.2.2.2.1;omega) _;have H2:Has (W1.setCell ⟨bc,i,none⟩ V) b2 (za ZND).toArray 23:=R1.out.2.1.other (by show b2≠bc;have:=R0.out.2.2.2.1;omega) _
 have FN:Aside (Has ((W1.setCell ⟨bc,i,none⟩ V).setRow b2 (za Y).toArray) bc (cs.setIfInBounds i V) 118/\BUT bc w ((W1.setCell ⟨bc,i,none⟩ V).setRow b2 (za Y).toArray)):=by
  have h1:=R0.out.2.2.2;refine⟨(R1.out.2.2.2.1.set i V).row_other (by omega) _,fun q hq hne=>?_,?_⟩
  ·rw[setRow_other _ b2 q _ (by omega),Below.heap_setCell _ _ _ _ (by exact hne)]
   exact R1.out.1.block q hq
  ·exact zm ((R1.out.1.mono (by show bc<=_;omega)).setCell (p:=⟨bc,i,none⟩) (Nat.le_refl _) _) (by show bc<=_;omega) _
 subst hV;clear hsl R0 R1 B HI
 go_wp2_with (first
  | (refine wpList_load_row rfl 23 (.tmp 3) rfl b3 rfl 23 (za Y).toArray (0,0) _ H3 Tryz.underlying23 rfl (zd y32) ?_)
  | (refine wpList_store_row rfl 23 (.tmp 2) (.tmp 15) rfl _ _ rfl rfl 23 _ H2 (zd y32) (by simp[za,y32];rfl) (zx Y) ?_))
 refine bodyPost_ret (v:=.agg (za Y).toArray) (xL rfl _ _ b2 23 _ (0,0) _ _ rfl (Has.row H2 _) Tryz.underlying23 (zd y32)) rfl ⟨rfl,FN.out⟩
theorem z1t{P:Program}{o:Oper}{a:Act}{w:World}{K K':Act->World->Prop}{Q Q':Exit->Act->World->Prop}(h:∀ a w,K a w->K' a w)(hq:∀ c a w,Q (.panic c) a w->Q' (.panic c) a w)(hl:LetsOut Q->LetsOut Q')(hh:o.wp P a w K Q):o.wp P a w K' Q':=by
 unfold Oper.wp at *
 generalize (execOp a.eval o).run P w=r at *
 cases r with
 | ok n w'=>
   cases n <;> simp only[Oper.upon] at hh ⊢ <;>
    first
     | exact h _ _ hh
     | exact Calls.mono hh (fun e w'' he=>by cases e <;> first | exact h _ _ he | exact hq _ _ _ he | exact hl he)
     | exact Rows.mono hh (fun _ _ he=>h _ _ he)
 | halt x w'=>cases x <;> simp only[Oper.upon] at hh ⊢ <;> first | exact hq _ _ _ hh | exact hh
theorem xM{P:Program}{ops:Array Oper}{o:Oper}{a:Act}{w:World}{K:Act->World->Prop}{Q:Exit->Act->World->Prop}{E:Prop}(hw:Region.wanted o (yielded ops a.tmps)=true)
  (h:wpList P ops (fun e a w=>e=Exit.normal/\K a w) [o] a w):if Region.wanted o (yielded ops a.tmps)=true then Oper.wp P o a w K Q else E:=by
 rw[if_pos hw];unfold wpList at h;rw[if_pos hw] at h;rcases h with h | ⟨_,a',w',h',_⟩
 ·exact z1t (fun a w h=>by unfold wpList at h;exact h.2) (fun c a w h=>by cases h.1) (fun h=>by obtain⟨_,_,h,_⟩:=h;cases h) h
 ·cases h'
theorem zP{ops:Array Oper}{o:Oper}{a:Act}{w w':World}{K:Act->World->Prop}{Q:Exit->Act->World->Prop}{E:Prop}{v:Value}(hw:Region.wanted o (yielded ops a.tmps)=true)
  (hrun:(execOp a.eval o).run Tryz.prog w=.ok (.value v) w')(h:K (a.put o.dst v) w'):if Region.wanted o (yielded ops a.tmps)=true then Oper.wp Tryz.prog o a w K Q else E:=by
 rw[if_pos hw];unfold Oper.wp;rw[hrun];exact h
def MSTP(A B Y:List Int):Array Value:=(za A ++ za B ++ za Y).toArray
theorem XI(l:List Int)(h:l.length=32):∃ f:Nat->Int,l=(List.range 32).map f:=by
 refine⟨fun i=>l.getD i 0,List.ext_getElem (by simp[h]) fun i h1 h2=>?_⟩;simp[List.getD_eq_getElem?_getD,List.getElem?_eq_getElem h1]
theorem JM(A B Y:List Int)(lA:A.length=32)(lB:B.length=32)(lY:Y.length=32):Tryz.prog.built 56 [(0,.agg (za A).toArray),(1,.agg (za B).toArray),(2,.agg (za Y).toArray)]=some (MSTP A B Y):=by
 obtain⟨f,rfl⟩:=XI A lA;obtain⟨g,rfl⟩:=XI B lB;obtain⟨h,rfl⟩:=XI Y lY;kernel_rfl
theorem YX{A B Y:List Int}(lA:A.length=32)(lB:B.length=32)(lY:Y.length=32):(MSTP A B Y).size=96:=by simp[MSTP,za,lA,lB,lY]
theorem jg{A B Y:List Int}(lA:A.length=32)(lB:B.length=32)(lY:Y.length=32):(Tryz.prog.info? 56).map (·.size)=some (za A ++ za B ++ za Y).length:=by
 have e:(za A ++ za B ++ za Y).length=96:=by simp[za,lA,lB,lY]
 have h:(Tryz.prog.info? 56).map (·.size)=some 96:=by kernel_rfl
 rw[e];exact h
theorem Yu{s:Sem Value}{w w':World}{v:Value}(h:s.run Tryz.prog w=.ok v w'):(do pure (Next.value (<-s)):Sem Next).run Tryz.prog w=.ok (.value v) w':=by
 simp[h]
theorem y8{s:Sem Unit}{w w':World}(h:s.run Tryz.prog w=.ok () w'):(do s;pure Next.skip:Sem Next).run Tryz.prog w=.ok .skip w':=by
 simp[h]
theorem JN{a:Act}(w:World)(o:Oper)(ho:o.op=.alloc 56):(execOp a.eval o).run Tryz.prog w=.ok (.value (.pointer (some ⟨w.heap.size,0,none⟩))) (w.alloc (.cells (MSTP ZND ZND ZND) 56)):=by
 simp[execOp,ho,go_sem];rfl
theorem j0{w:World}{g:Nat}{A X:List Int}(h:Has w g (za A).toArray 23)(lA:A.length=32)(lX:X.length=32):(Instr.storeAt 23 (.pointer (some ⟨g,0,none⟩)) (.agg (za X).toArray)).run Tryz.prog w=.ok () (w.setRow g (za X).toArray):=by
 simp only[Instr.storeAt,Instr.sureAddr,Sem.run_bind,Sem.run_pure,Result.andThen];exact run_storeVar_row w g 23 23 (za A).toArray (za X).toArray h (zd lX) (by simp[za,lA,lX]) (zx X)
theorem kT{w:World}{g:Nat}{A B Y:List Int}(h:Has w g (MSTP ZND ZND ZND) 56)(lA:A.length=32)(lB:B.length=32)(lY:Y.length=32):(Instr.storeAt 56 (.pointer (some ⟨g,0,none⟩)) (.agg (MSTP A B Y))).run Tryz.prog w=.ok () (w.setRow g (MSTP A B Y)):=by
 simp only[Instr.storeAt,Instr.sureAddr,Sem.run_bind,Sem.run_pure,Result.andThen]
 exact run_storeVar_row w g 56 56 (MSTP ZND ZND ZND) (MSTP A B Y) h (by rw[YX lA lB lY];exact(jg lA lB lY).trans (by simp[za,lA,lB,lY])) (by rw[YX lA lB lY];rfl) (by
  rw[Array.all_eq_true_iff_forall_mem];intro v hv;have hv:v∈za A ++ za B ++ za Y:=by simpa[MSTP] using hv
  rcases List.mem_append.1 hv with hv | hv
  ·rcases List.mem_append.1 hv with hv | hv
   ·exact yf A v hv
   ·exact yf B v hv
  ·exact yf Y v hv)
theorem Zg{w:World}{g:Nat}{cs:Array Value}{a1 a2:Option Addr}{n1 n2 c1 c2:Nat}(h:Has w g cs 71)(hc:cs.size=2):(Instr.storeAt 71 (.pointer (some ⟨g,0,none⟩)) (.agg #[.slice a1 n1 c1,.slice a2 n2 c2])).run Tryz.prog w=.ok () (w.setRow g #[.slice a1 n1 c1,.slice a2 n2 c2]):=by
 simp only[Instr.storeAt,Instr.sureAddr,Sem.run_bind,Sem.run_pure,Result.andThen];exact run_storeVar_row w g 71 71 cs _ h (by kernel_rfl) (by rw[hc];rfl) (by simp[go_sem,Value.oneCell'])
theorem mc{w:World}{g:Nat}{a1 a2:Option Addr}{n1 n2 c1 c2:Nat}(h:Has w g #[.slice a1 n1 c1,.slice a2 n2 c2] 71):(Instr.loadAt 71 (.pointer (some ⟨g,0,none⟩))).run Tryz.prog w=.ok (.agg #[.slice a1 n1 c1,.slice a2 n2 c2]) w:=by
 have x:=h.cell 0;have y:=h.cell 1;simp only[Instr.loadAt,Instr.sureAddr,Sem.run_bind,Sem.run_pure,Result.andThen];exact run_loadVar_row w g 71 71 _ (0,0) _ h Tryz.underlying71 rfl (by kernel_rfl)
end Go.Proofs.YtobaogpomcocpaaGreatDoor
