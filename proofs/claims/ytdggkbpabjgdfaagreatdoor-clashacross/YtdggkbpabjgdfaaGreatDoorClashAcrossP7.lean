/- ClashAcross: part 7. -/
import Derived.Great.BuildSlice
import Derived.ChangeKeysEq
import Derived.Laws.BitsAllLaws
import Derived.Test.YtdggkbpabjgdfaaGreatDoorClashAcrossP6
set_option maxHeartbeats 2000000
namespace Go.Proofs.YtdggkbpabjgdfaaGreatDoor
open Go.RowKit
set_option maxRecDepth 100000
theorem z3F {w w':World} {B:Nat} {t:TypeId} {s:Nat} {v:Value} {n:Nat} {xs:List Value} (h:w.ownsRow B t s v n xs) (hk:∀ k,v.ownBlock=some k->w'.heap[k]?=w.heap[k]?):w'.ownsRow B t s v n xs:=by
 refine ⟨h.1,?_⟩;rcases h.2 with h | ⟨g,cap,cur,rfl,hb,hg,r⟩
 ·exact .inl h
 ·exact .inr ⟨g,cap,cur,rfl,hb,by rw [hk g rfl];exact hg,r⟩
def ZND:List Int:=List.replicate 32 0
abbrev ZARR:Array Value:=#[.int .u8 0,.int .u8 0,.int .u8 0,.int .u8 0,.int .u8 0,.int .u8 0,.int .u8 0,.int .u8 0,.int .u8 0,.int .u8 0,.int .u8 0,.int .u8 0,.int .u8 0,.int .u8 0,.int .u8 0,.int .u8 0,.int .u8 0,.int .u8 0,.int .u8 0,.int .u8 0,.int .u8 0,.int .u8 0,.int .u8 0,.int .u8 0,.int .u8 0,.int .u8 0,.int .u8 0,.int .u8 0,.int .u8 0,.int .u8 0,.int .u8 0,.int .u8 0]
theorem z28:(z01 ZND).toArray=ZARR:=rfl
theorem z1A:(Tryz.prog.info? 24).map (fun i=>(i.zero,i.size,i.bytes))=some (some (.agg ZARR),32,32):=by kernel_rfl
theorem zeF {ops:Array Oper} {rest:List Oper} {o:Oper} {a:Act} {Q:Exit->Act->World->Prop} (w:World) (hgd:o.guard=none) (s x:Operand)
  (ho:o.op=.call {callee:=.builtin .append,args:=#[s,x],argTypes:=#[38,38]})
  (base:Nat) (v:Value) (n:Nat) (xs:List Value) (hs:a.eval s=v) (hown:w.ownsRow base 24 32 v n xs)
  (b c:Nat) (y:List Int) (hl:y.length=32) (hx:a.eval x=.slice (some ⟨b,0,none⟩) 1 c) (hc:Has w b (z01 y).toArray 24)
  (hb:n<=100000) (hbase:base<=w.heap.size)
  (h:∀ g cap w',w'.ownsRow base 24 32 (.slice (some ⟨g,0,none⟩) (n+1) cap) (n+1) (xs ++ z01 y)->w.grownBy w' v.ownBlock->(v.ownBlock=some g\/g=w.heap.size)->g<w'.heap.size->wpList Tryz.prog ops Q rest (a.put o.dst (.slice (some ⟨g,0,none⟩) (n+1) cap)) w'):wpList Tryz.prog ops Q (o :: rest) a w:=by
 obtain ⟨i,hi,hz,hs1,hby⟩:=info_parts z1A;refine wpList_append_lies w hgd s x 38 ho base 24 i (.agg ZARR) 32 32 Tryz.underlying38 hi hz hs1 hby rfl (by decide) v n xs hs hown ⟨b,0,none⟩ 1 c (z01 y) hx (by rw [z01,List.length_map,hl]) ?_ (z1y y) (by decide) (by simp only [maxLen];omega) (by omega) hbase w.heap.size rfl h;intro j u hj;rw [z1a,Nat.zero_add,hc.cell,List.getElem?_toArray];exact hj
theorem z2V {ops:Array Oper} {rest:List Oper} {o:Oper} {a:Act} {Q:Exit->Act->World->Prop} (w:World) (hgd:o.guard=none) (s x:Operand)
  (ho:o.op=.call {callee:=.builtin .append,args:=#[s,x],argTypes:=#[38,38]})
  (base:Nat) (v:Value) (n:Nat) (xs:List Value) (hs:a.eval s=v) (hown:w.ownsRow base 24 32 v n xs)
  (b c:Nat) (y:List Int) (hl:y.length=32) (hx:a.eval x=.slice (some ⟨b,0,none⟩) 1 c) (hc:Has w b (z01 y).toArray 24)
  (hb:n<=1000) (hbase:base<=w.heap.size)
  (h:∀ g cap w',w'.ownsRow base 24 32 (.slice (some ⟨g,0,none⟩) (n+1) cap) (n+1) (xs ++ z01 y)->w.grownBy w' v.ownBlock->(v.ownBlock=some g\/g=w.heap.size)->g<w'.heap.size->wpList Tryz.prog ops Q rest (a.put o.dst (.slice (some ⟨g,0,none⟩) (n+1) cap)) w'):wpList Tryz.prog ops Q (o :: rest) a w:=
 zeF w hgd s x ho base v n xs hs hown b c y hl hx hc (by omega) hbase h
theorem z1B {ops:Array Oper} {rest:List Oper} {o:Oper} {a:Act} {Q:Exit->Act->World->Prop} (w:World) (hg:o.guard=none) (t e:TypeId) (x:Operand) (ho:o.op=.buildSlice t 1 #[(0,x)]) (C:Array Value) (hx:a.eval x=.agg C) (n:Nat) (z:Value) (by':Nat)
  (hu:Tryz.prog.underlying t=some (.slice e)) (hi:(Tryz.prog.info? e).map (fun i=>(i.zero,i.size,i.bytes))=some (some z,n,by')) (hC:C.size=n) (hz:z.cells.size=n) (hn:0<n) (hs:n<=1000)
  (h:wpList Tryz.prog ops Q rest (a.put o.dst (.slice (some ⟨w.heap.size,0,none⟩) 1 1)) (w.alloc (.cells C e))):wpList Tryz.prog ops Q (o :: rest) a w:=by
 obtain ⟨i,hie,hz',hs1,_⟩:=info_parts hi;refine wpList_buildSlice hg t e 1 _ ho C i z hu hie hz' (by rw [hs1];omega) (by rw [hs1];omega) ?_ h;have:=Great.fill_whole (s:=n) hn [.agg C] ((Array.range (1*i.size)).map (z.cells[· % z.cells.size]!)) (fun v hv=>by simp at hv;subst hv;exact hC) (by simp [hs1]);simp [Value.cells] at this;rw [hs1];simp [hx];rw [hs1] at this;exact this
theorem z6c (d:Nat) (h g:List Int) (hh:h.length=32) (hg:g.length=32) (w:World):∀ is:List Nat,(∀ i∈is,i<32)->(Op.eqItems (d+1) 5 1 (z01 h).toArray (z01 g).toArray is).run Tryz.prog w=.ok (is.all fun i=>h.getD i 0 == g.getD i 0) w
 | [],_=>by simp [Op.eqItems]
 | i :: is,hi=>by
   have hp:Tryz.prog.plainKey 5=true:=by kernel_rfl
   have hi32:i<32:=hi i (by simp);have h1:=run_part_plain (P:=Tryz.prog) w hp (show (z01 h).toArray[i]?=some (.int .u8 (h.getD i 0)) by rw [List.getElem?_toArray,z0G h i (by omega)]);have h2:=run_part_plain (P:=Tryz.prog) w hp (show (z01 g).toArray[i]?=some (.int .u8 (g.getD i 0)) by rw [List.getElem?_toArray,z0G g i (by omega)]);have h3:=run_equalIn_int (P:=Tryz.prog) w d 5 .u8 .u8 (h.getD i 0) (g.getD i 0) Tryz.underlying5;have ih:=z6c d h g hh hg w is (fun j hj=>hi j (by simp [hj]));rw [Op.eqItems,Nat.mul_one];simp only [Sem.run_bind,h1,h2,h3,Result.andThen_ok];by_cases e:h.getD i 0=g.getD i 0
   ·have e2:(h.getD i 0 == g.getD i 0)=true:=by simpa using e
    rw [List.all_cons,e2,Bool.true_and,if_neg (by simp)];exact ih
   ·have e2:(h.getD i 0 == g.getD i 0)=false:=by simpa using e
    rw [List.all_cons,e2];simp
theorem zbm (h g:List Int) (hh:h.length=32) (hg:g.length=32) (w:World):(Op.equalIn 10000 24 (.agg (z01 h).toArray) (.agg (z01 g).toArray)).run Tryz.prog w=.ok ((List.range 32).all fun i=>h.getD i 0 == g.getD i 0) w:=by
 obtain ⟨i8,hi,_⟩:=Option.map_eq_some_iff.1 z0X;rw [run_equalIn_array (P:=Tryz.prog) w 9999 (z01 h).toArray (z01 g).toArray Tryz.underlying24 hi];have hc:Tryz.prog.cellsOf 5=1:=by kernel_rfl
 rw [hc];exact z6c 9998 h g hh hg w _ (fun i hi=>by simpa using hi)
theorem zeG {h g:List Int} (hh:h.length=32) (hg:g.length=32):((List.range 32).all fun i=>h.getD i 0 == g.getD i 0)=decide (h=g):=by
 by_cases e:h=g
 ·subst e
  simp
 ·rw [decide_eq_false e,Bool.eq_false_iff]
  intro hx;rw [List.all_eq_true] at hx;apply e;apply List.ext_getElem (by omega);intro i h1 h2;have:=hx i (by simp;omega);simpa [List.getD,h1,h2] using this
theorem z3G {h g:List Int} (hh:h.length=32) (hg:g.length=32) (w:World):(Op.equalIn 10000 24 (.agg (z01 h).toArray) (.agg (z01 g).toArray)).run Tryz.prog w=.ok (decide (h=g)) w:=by
 rw [zbm h g hh hg,zeG hh hg]
theorem zd2:(Tryz.prog.info? 24).map (fun i=>(i.size,i.bytes,i.zero.isSome))=some (32,32,true):=by kernel_rfl
theorem zd3 (N:Nat) (hN:N<=1000) (w:World):∃ cur:Array Value,cur.size=N*32/\(Instr.makeSlice 38 (.int .i64 0) (.int .i64 (N:Int))).run Tryz.prog w=.ok (.slice (some ⟨w.heap.size,0,none⟩) 0 N) (w.alloc (.cells cur 24)):=by
 obtain ⟨i,hi,h⟩:=Option.map_eq_some_iff.1 zd2;simp only [Prod.mk.injEq] at h;obtain ⟨h1,h2,h3⟩:=h;obtain ⟨z,hz⟩:=Option.isSome_iff_exists.1 h3;have h:=run_make (P:=Tryz.prog) w 38 24 i z Tryz.underlying38 hi hz .i64 .i64 0 N (by omega) (by omega) (by rw [h2];omega) (by omega);refine ⟨madeCells z.cells (N*i.size),?_,?_⟩
 ·rw [size_madeCells,h1]
 ·simpa using h
end Go.Proofs.YtdggkbpabjgdfaaGreatDoor
namespace Go.Proofs.YtdggkbpabjgdfaaGreatDoor
open Go.RowKit Go.Maps
set_option maxRecDepth 100000
def RV (v:Value):Option (DataW Value × List MemPlace):=some (.held v,[])
theorem zgq (w:World):(zeroValue 24).run Tryz.prog w=.ok (.agg ZARR) w:=by kernel_rfl
def SMAP (w:World) (b n:Nat) (M:Nat->Nat->List Int):Prop:=∃ D:DataW Value,w.ownsMap Tryz.prog 77 RV b n D/\∀ h k,h<256->k<2 ^ 64->D.atKey (KL h k) (.held (.agg ZARR))=.held (.agg (z01 (M h k)).toArray)
def MPUT (M:Nat->Nat->List Int) (h k:Nat) (x:List Int):Nat->Nat->List Int:=fun h' k'=>if h'=h/\k'=k then x else M h' k'
theorem z4m (M:Nat->Nat->List Int) (h k:Nat) (x:List Int):MPUT M h k x h k=x:=by simp [MPUT]
theorem z20 (M:Nat->Nat->List Int) {h k h' k':Nat} (x:List Int) (e:¬ (h'=h/\k'=k)):MPUT M h k x h' k'=M h' k':=by unfold MPUT;rw [if_neg e]
theorem SMAP.made (w:World):SMAP (w.alloc (.map #[] 0)) w.heap.size 0 (fun _ _=>ZND):=⟨_,World.ownsMap_made w _ _ _,fun h k _ _=>by simp [DataW.atKey];rfl⟩
theorem SMAP.lt {w:World} {b n:Nat} {M:Nat->Nat->List Int} (h:SMAP w b n M):b<w.heap.size:=let ⟨_,h1,_⟩:=h;h1.lt
theorem SMAP.at {w w':World} {b n:Nat} {M:Nat->Nat->List Int} (h:SMAP w b n M) (hb:w'.heap[b]?=w.heap[b]?):SMAP w' b n M:=by
 obtain ⟨D,⟨es,clock,h1,r⟩,h2⟩:=h;exact ⟨D,⟨es,clock,hb.trans h1,r⟩,h2⟩
theorem SMAP.below {w w':World} {b n:Nat} {M:Nat->Nat->List Int} (h:SMAP w b n M) (hb:Below w.heap.size w w'):SMAP w' b n M:=h.at (hb.block b h.lt)
theorem SMAP.look {w:World} {b n:Nat} {M:Nat->Nat->List Int} (hM:SMAP w b n M) {h k:Nat} (hh:h<256) (hk:k<2 ^ 64):(Instr.lookup 110 (.map (some b)) (SPOT h k) false).run Tryz.prog w=.ok (.agg (z01 (M h k)).toArray) w:=by
 obtain ⟨D,h1,h2⟩:=hM;obtain ⟨v,ps,r1,r2⟩:=h1.lookup law Tryz.underlying110 (zgq w) (show RV (.agg ZARR)=some (.held (.agg ZARR),[]) from rfl) (z4i hh hk);rw [h2 h k hh hk] at r2
 have e:v=.agg (z01 (M h k)).toArray:=by
  simp only [RV,Option.some.injEq,Prod.mk.injEq,DataW.held.injEq] at r2;exact r2.1
 rw [r1,e]
theorem SMAP.store {w:World} {b n:Nat} {M:Nat->Nat->List Int} (hM:SMAP w b n M) (hn:n<=100000) {h k:Nat} (hh:h<256) (hk:k<2 ^ 64) (x:List Int):∃ w',(Instr.mapUpdate 110 (.map (some b)) (SPOT h k) (.agg (z01 x).toArray)).run Tryz.prog w=.ok () w'/\SMAP w' b (n+1) (MPUT M h k x)/\w.grownBy w' (some b):=by
 obtain ⟨D,h1,h2⟩:=hM;obtain ⟨w',r1,r2,r3⟩:=h1.update law Tryz.underlying110 (by unfold maxLen;omega) (z4i hh hk) (show RV (.agg (z01 x).toArray)=some (.held (.agg (z01 x).toArray),[]) from rfl);refine ⟨w',r1,⟨_,r2,fun h' k' hh' hk'=>?_⟩,r3⟩;have hkey:WideAt.IsKeyLit (KL h k):=law.key (z4i hh hk);by_cases e:KL h' k'=KL h k
 ·obtain ⟨rfl,rfl⟩:=zel hh' hk' hh hk e
  rw [Maps.atKey_put_same h1.isMap hkey,z4m]
 ·rw [Maps.atKey_put_other e,z20 _ _ (fun e2=>e (by rw [e2.1,e2.2])),h2 h' k' hh' hk']
end Go.Proofs.YtdggkbpabjgdfaaGreatDoor
namespace Go.Proofs.YtdggkbpabjgdfaaGreatDoor
open Go.RowKit
set_option maxRecDepth 100000
theorem zbn {w:World} {g:Nat} {x y:List Int} (h:Has w g (z01 x).toArray 24) (hx:x.length=32) (hy:y.length=32):(Instr.storeAt 24 (.pointer (some ⟨g,0,none⟩)) (.agg (z01 y).toArray)).run Tryz.prog w=.ok () (w.setRow g (z01 y).toArray):=by
 simp only [Instr.storeAt,Instr.sureAddr,Sem.run_bind,Sem.run_pure,Result.andThen];exact run_storeVar_row w g 24 24 (z01 x).toArray (z01 y).toArray h (z02 hy) (by simp [z01,hx,hy]) (z0k y)
@[go_sem] def VHOPSq0:Oper:=⟨some 29,.move (.tmp 6),110,"climbed.go:20",#[],none⟩
@[go_sem] def VHOPSq1:Oper:=⟨some 30,.load 77 (.tmp 9),77,"climbed.go:20",#[],none⟩
@[go_sem] def VHOPSq2:Oper:=⟨some 31,.move (.tmp 1),38,"climbed.go:20",#[],none⟩
@[go_sem] def VHOPSq3:Oper:=⟨some 32,.move (.tmp 7),3,"climbed.go:20",#[],none⟩
@[go_sem] def VHOPSq4:Oper:=⟨some 33,.indexAddr 38 (.tmp 31) (.tmp 32),0,"climbed.go:20",#[⟨2,.data⟩,⟨3,.data⟩],none⟩
@[go_sem] def VHOPSq5:Oper:=⟨some 34,.load 24 (.tmp 33),24,"climbed.go:20",#[⟨4,.data⟩],none⟩
@[go_sem] def VHOPSq6:Oper:=⟨none,.mapUpdate 110 (.tmp 29) (.tmp 30) (.tmp 34),0,"climbed.go:20",#[⟨0,.data⟩,⟨1,.data⟩,⟨5,.data⟩,⟨0,.phase⟩,⟨1,.phase⟩,⟨2,.phase⟩,⟨3,.phase⟩,⟨4,.phase⟩,⟨5,.phase⟩],none⟩
def z7k:Array Oper:=#[VHOPSq0,VHOPSq1,VHOPSq2,VHOPSq3,VHOPSq4,VHOPSq5,VHOPSq6]
theorem z9u {Q:Exit->Act->World->Prop} (b d e f g j l m p q r s u x y z A B C D E F G I J L M N O P R T U:Value) (W:World) (mb b9 gn o n c i h k:Nat) (H:List Int) (hH:H.length=32) (b1:(i:Int)<(n:Int)) (P0 P1:World->Prop) (t0:∀ w,P0 w->(fun W:World=>W.cell? ⟨b9,0,none⟩=some (.int .u8 (h:Int))/\W.cell? ⟨b9,1,none⟩=some (.int .u64 (k:Int))/\W.rangeAt gn (o+i*32) (z01 H)) w) (t1:∀ w,P1 w->(fun W:World=>W.cell? ⟨b9,0,none⟩=some (.int .u8 (h:Int))/\W.cell? ⟨b9,1,none⟩=some (.int .u64 (k:Int))/\W.rangeAt gn (o+i*32) (z01 H)) w) (s1:∀ w,P0 w->∃ w',(Instr.mapUpdate 110 (.map (some mb)) (.agg #[.int .u8 (h:Int),.int .u64 (k:Int)]) (.agg (z01 H).toArray)).run Tryz.prog w=.ok () w'/\P1 w') (h0:P0 W.drew) (hQ:∀ c (a:Act) (t:Tmp) (v:Value) w,Q (.panic c) (a.put (some t) v) w->Q (.panic c) a w)
  (hfin:∀ (w:World),P1 w->Q .normal {tmps:=#[b,.slice (some ⟨gn,o,none⟩) n c,d,e,f,g,.map (some mb),.int .i64 (i:Int),j,.pointer (some ⟨b9,0,none⟩),l,m,p,q,r,s,u,x,y,z,A,B,C,D,E,F,G,I,J,.map (some mb),.agg #[.int .u8 (h:Int),.int .u64 (k:Int)],.slice (some ⟨gn,o,none⟩) n c,.int .i64 (i:Int),.pointer (some ⟨gn,o+i*32,none⟩),.agg (z01 H).toArray,T,U],defers:=[]} w):(Code.region 8 z7k true).wp Tryz.prog Q {tmps:=#[b,.slice (some ⟨gn,o,none⟩) n c,d,e,f,g,.map (some mb),.int .i64 (i:Int),j,.pointer (some ⟨b9,0,none⟩),l,m,p,q,r,s,u,x,y,z,A,B,C,D,E,F,G,I,J,L,M,N,O,P,R,T,U],defers:=[]} W:=by
 have k1:∀ (w:World),P1 w->wpAnyH Tryz.prog .any z7k Q (fun W:World=>W.cell? ⟨b9,0,none⟩=some (.int .u8 (h:Int))/\W.cell? ⟨b9,1,none⟩=some (.int .u64 (k:Int))/\W.rangeAt gn (o+i*32) (z01 H)) 0 #[tt,tt,tt,tt,tt,tt,tt] {tmps:=#[b,.slice (some ⟨gn,o,none⟩) n c,d,e,f,g,.map (some mb),.int .i64 (i:Int),j,.pointer (some ⟨b9,0,none⟩),l,m,p,q,r,s,u,x,y,z,A,B,C,D,E,F,G,I,J,.map (some mb),.agg #[.int .u8 (h:Int),.int .u64 (k:Int)],.slice (some ⟨gn,o,none⟩) n c,.int .i64 (i:Int),.pointer (some ⟨gn,o+i*32,none⟩),.agg (z01 H).toArray,T,U],defers:=[]} w:=fun  w hp=>by
  have hww:(fun W:World=>W.cell? ⟨b9,0,none⟩=some (.int .u8 (h:Int))/\W.cell? ⟨b9,1,none⟩=some (.int .u64 (k:Int))/\W.rangeAt gn (o+i*32) (z01 H)) w:=t1 _ hp;have last:wpAnyH Tryz.prog .any z7k Q (fun W:World=>W.cell? ⟨b9,0,none⟩=some (.int .u8 (h:Int))/\W.cell? ⟨b9,1,none⟩=some (.int .u64 (k:Int))/\W.rangeAt gn (o+i*32) (z01 H)) 0 #[tt,tt,tt,tt,tt,tt,tt] {tmps:=#[b,.slice (some ⟨gn,o,none⟩) n c,d,e,f,g,.map (some mb),.int .i64 (i:Int),j,.pointer (some ⟨b9,0,none⟩),l,m,p,q,r,s,u,x,y,z,A,B,C,D,E,F,G,I,J,.map (some mb),.agg #[.int .u8 (h:Int),.int .u64 (k:Int)],.slice (some ⟨gn,o,none⟩) n c,.int .i64 (i:Int),.pointer (some ⟨gn,o+i*32,none⟩),.agg (z01 H).toArray,T,U],defers:=[]} w:=wpAnyH_done (by kernel_rfl) (hfin  w hp) _;exact last
 have k0:∀ (w:World),P0 w->wpAnyH Tryz.prog .any z7k Q (fun W:World=>W.cell? ⟨b9,0,none⟩=some (.int .u8 (h:Int))/\W.cell? ⟨b9,1,none⟩=some (.int .u64 (k:Int))/\W.rangeAt gn (o+i*32) (z01 H)) 7 #[ff,ff,ff,ff,ff,ff,ff] {tmps:=#[b,.slice (some ⟨gn,o,none⟩) n c,d,e,f,g,.map (some mb),.int .i64 (i:Int),j,.pointer (some ⟨b9,0,none⟩),l,m,p,q,r,s,u,x,y,z,A,B,C,D,E,F,G,I,J,L,M,N,O,P,R,T,U],defers:=[]} w:=fun  w hp=>by
  have hww:(fun W:World=>W.cell? ⟨b9,0,none⟩=some (.int .u8 (h:Int))/\W.cell? ⟨b9,1,none⟩=some (.int .u64 (k:Int))/\W.rangeAt gn (o+i*32) (z01 H)) w:=t0 _ hp
  have last:wpAnyH Tryz.prog .any z7k Q (fun W:World=>W.cell? ⟨b9,0,none⟩=some (.int .u8 (h:Int))/\W.cell? ⟨b9,1,none⟩=some (.int .u64 (k:Int))/\W.rangeAt gn (o+i*32) (z01 H)) 1 #[tt,tt,tt,tt,tt,tt,ff] {tmps:=#[b,.slice (some ⟨gn,o,none⟩) n c,d,e,f,g,.map (some mb),.int .i64 (i:Int),j,.pointer (some ⟨b9,0,none⟩),l,m,p,q,r,s,u,x,y,z,A,B,C,D,E,F,G,I,J,.map (some mb),.agg #[.int .u8 (h:Int),.int .u64 (k:Int)],.slice (some ⟨gn,o,none⟩) n c,.int .i64 (i:Int),.pointer (some ⟨gn,o+i*32,none⟩),.agg (z01 H).toArray,T,U],defers:=[]} w:=by
   obtain ⟨w',hr,hp⟩:=s1 w hp;refine z2i (o:=VHOPSq6) 6 (by kernel_rfl) rfl (fun K hK=>?_);exact z1W rfl (z6I hr) (hK.out _ _ (t1 _ hp) (fun _=>k1  w' hp))
  refine tkP VHOPSq0 (.map (some mb)) 0 hQ hww ?_;simp only [List.set];refine tkH VHOPSq1 (.agg #[.int .u8 (h:Int),.int .u64 (k:Int)]) 1 hQ (Or.inl ⟨by rfl,fun w hw=>by have hx:=hw.1;have hy:=hw.2.1;go_simp⟩) hww ?_;simp only [List.set];refine tkP VHOPSq2 (.slice (some ⟨gn,o,none⟩) n c) 2 hQ hww ?_;simp only [List.set];refine tkP VHOPSq3 (.int .i64 (i:Int)) 3 hQ hww ?_;simp only [List.set];refine tkP VHOPSq4 (.pointer (some ⟨gn,o+i*32,none⟩)) 4 hQ hww ?_;simp only [List.set];refine tkH VHOPSq5 (.agg (z01 H).toArray) 5 hQ (yieldsIf_load_mid (by rfl) 24 (.tmp 33) rfl gn (o+i*32) rfl (z01 H) _ (fun w h=>h.2.2) Tryz.underlying24 rfl (z09 hH)) hww ?_;simp only [List.set];exact last
 have hp:=h0;exact wp_region_held_drew (S:=(fun W:World=>W.cell? ⟨b9,0,none⟩=some (.int .u8 (h:Int))/\W.cell? ⟨b9,1,none⟩=some (.int .u64 (k:Int))/\W.rangeAt gn (o+i*32) (z01 H))) (by kernel_rfl) (t0 _ hp) (fun _=>k0 _ hp)
@[go_sem] def VJOPSq0:Oper:=⟨some 27,.move (.tmp 0),110,"climbed.go:30",#[],none⟩
@[go_sem] def VJOPSq1:Oper:=⟨some 28,.load 77 (.tmp 5),77,"climbed.go:30",#[],none⟩
@[go_sem] def VJOPSq2:Oper:=⟨some 29,.move (.tmp 1),3,"climbed.go:30",#[],none⟩
@[go_sem] def VJOPSq3:Oper:=⟨some 30,.load 24 (.tmp 6),24,"climbed.go:30",#[],none⟩
@[go_sem] def VJOPSq4:Oper:=⟨some 31,.load 24 (.tmp 7),24,"climbed.go:30",#[],none⟩
@[go_sem] def VJOPSq5:Oper:=⟨some 32,.call {callee:=.value (.func 102),args:=#[.tmp 29,.tmp 30,.tmp 31],argTypes:=#[3,24,24]},24,"climbed.go:30",#[⟨2,.data⟩,⟨3,.data⟩,⟨4,.data⟩],none⟩
@[go_sem] def VJOPSq6:Oper:=⟨none,.mapUpdate 110 (.tmp 27) (.tmp 28) (.tmp 32),0,"climbed.go:30",#[⟨0,.data⟩,⟨1,.data⟩,⟨5,.data⟩,⟨5,.chain⟩,⟨0,.phase⟩,⟨1,.phase⟩,⟨2,.phase⟩,⟨3,.phase⟩,⟨4,.phase⟩,⟨5,.phase⟩],none⟩
def z4I:Array Oper:=#[VJOPSq0,VJOPSq1,VJOPSq2,VJOPSq3,VJOPSq4,VJOPSq5,VJOPSq6]
theorem zbo {Q:Exit->Act->World->Prop} (b f g i j l m n p q r s u x y z A B C D E F G H I J M N:Value) (W:World) (mb b5 b6 b7 h k:Nat) (d:Int) (L R:List Int) (hL:L.length=32) (hR:R.length=32) (P0:World->Prop) (P1 P2:Value->World->Prop) (t0:∀ w,P0 w->(fun W:World=>W.cell? ⟨b5,0,none⟩=some (.int .u8 (h:Int))/\W.cell? ⟨b5,1,none⟩=some (.int .u64 (k:Int))/\W.rangeAt b6 0 (z01 L)/\W.rangeAt b7 0 (z01 R)) w) (t1:∀ X w,P1 X w->(fun W:World=>W.cell? ⟨b5,0,none⟩=some (.int .u8 (h:Int))/\W.cell? ⟨b5,1,none⟩=some (.int .u64 (k:Int))/\W.rangeAt b6 0 (z01 L)/\W.rangeAt b7 0 (z01 R)) w) (t2:∀ X w,P2 X w->(fun W:World=>W.cell? ⟨b5,0,none⟩=some (.int .u8 (h:Int))/\W.cell? ⟨b5,1,none⟩=some (.int .u64 (k:Int))/\W.rangeAt b6 0 (z01 L)/\W.rangeAt b7 0 (z01 R)) w) (c1:∀ w,P0 w->Calls Tryz.prog 102 #[.int .i64 d,.agg (z01 L).toArray,.agg (z01 R).toArray] w fun e w'=>∃ X,e=.returned X/\P1 X w') (s1:∀ X w,P1 X w->∃ w',(Instr.mapUpdate 110 (.map (some mb)) (.agg #[.int .u8 (h:Int),.int .u64 (k:Int)]) X).run Tryz.prog w=.ok () w'/\P2 X w') (h0:P0 W.drew) (hQ:∀ c (a:Act) (t:Tmp) (v:Value) w,Q (.panic c) (a.put (some t) v) w->Q (.panic c) a w)
  (hfin:∀ (X:Value) (w:World),P2 X w->Q .normal {tmps:=#[.map (some mb),.int .i64 d,b,f,g,.pointer (some ⟨b5,0,none⟩),.pointer (some ⟨b6,0,none⟩),.pointer (some ⟨b7,0,none⟩),i,j,l,m,n,p,q,r,s,u,x,y,z,A,B,C,D,E,F,.map (some mb),.agg #[.int .u8 (h:Int),.int .u64 (k:Int)],.int .i64 d,.agg (z01 L).toArray,.agg (z01 R).toArray,X],defers:=[]} w):(Code.region 3 z4I true).wp Tryz.prog Q {tmps:=#[.map (some mb),.int .i64 d,b,f,g,.pointer (some ⟨b5,0,none⟩),.pointer (some ⟨b6,0,none⟩),.pointer (some ⟨b7,0,none⟩),i,j,l,m,n,p,q,r,s,u,x,y,z,A,B,C,D,E,F,G,H,I,J,M,N],defers:=[]} W:=by
 have k2:∀ (X:Value) (w:World),P2 X w->wpAnyH Tryz.prog .any z4I Q (fun W:World=>W.cell? ⟨b5,0,none⟩=some (.int .u8 (h:Int))/\W.cell? ⟨b5,1,none⟩=some (.int .u64 (k:Int))/\W.rangeAt b6 0 (z01 L)/\W.rangeAt b7 0 (z01 R)) 0 #[tt,tt,tt,tt,tt,tt,tt] {tmps:=#[.map (some mb),.int .i64 d,b,f,g,.pointer (some ⟨b5,0,none⟩),.pointer (some ⟨b6,0,none⟩),.pointer (some ⟨b7,0,none⟩),i,j,l,m,n,p,q,r,s,u,x,y,z,A,B,C,D,E,F,.map (some mb),.agg #[.int .u8 (h:Int),.int .u64 (k:Int)],.int .i64 d,.agg (z01 L).toArray,.agg (z01 R).toArray,X],defers:=[]} w:=fun X w hp=>by
  have hww:(fun W:World=>W.cell? ⟨b5,0,none⟩=some (.int .u8 (h:Int))/\W.cell? ⟨b5,1,none⟩=some (.int .u64 (k:Int))/\W.rangeAt b6 0 (z01 L)/\W.rangeAt b7 0 (z01 R)) w:=t2 _ _ hp;have last:wpAnyH Tryz.prog .any z4I Q (fun W:World=>W.cell? ⟨b5,0,none⟩=some (.int .u8 (h:Int))/\W.cell? ⟨b5,1,none⟩=some (.int .u64 (k:Int))/\W.rangeAt b6 0 (z01 L)/\W.rangeAt b7 0 (z01 R)) 0 #[tt,tt,tt,tt,tt,tt,tt] {tmps:=#[.map (some mb),.int .i64 d,b,f,g,.pointer (some ⟨b5,0,none⟩),.pointer (some ⟨b6,0,none⟩),.pointer (some ⟨b7,0,none⟩),i,j,l,m,n,p,q,r,s,u,x,y,z,A,B,C,D,E,F,.map (some mb),.agg #[.int .u8 (h:Int),.int .u64 (k:Int)],.int .i64 d,.agg (z01 L).toArray,.agg (z01 R).toArray,X],defers:=[]} w:=wpAnyH_done (by kernel_rfl) (hfin X w hp) _;exact last
 have k1:∀ (X:Value) (w:World),P1 X w->wpAnyH Tryz.prog .any z4I Q (fun W:World=>W.cell? ⟨b5,0,none⟩=some (.int .u8 (h:Int))/\W.cell? ⟨b5,1,none⟩=some (.int .u64 (k:Int))/\W.rangeAt b6 0 (z01 L)/\W.rangeAt b7 0 (z01 R)) 1 #[tt,tt,tt,tt,tt,tt,ff] {tmps:=#[.map (some mb),.int .i64 d,b,f,g,.pointer (some ⟨b5,0,none⟩),.pointer (some ⟨b6,0,none⟩),.pointer (some ⟨b7,0,none⟩),i,j,l,m,n,p,q,r,s,u,x,y,z,A,B,C,D,E,F,.map (some mb),.agg #[.int .u8 (h:Int),.int .u64 (k:Int)],.int .i64 d,.agg (z01 L).toArray,.agg (z01 R).toArray,X],defers:=[]} w:=fun X w hp=>by
  have hww:(fun W:World=>W.cell? ⟨b5,0,none⟩=some (.int .u8 (h:Int))/\W.cell? ⟨b5,1,none⟩=some (.int .u64 (k:Int))/\W.rangeAt b6 0 (z01 L)/\W.rangeAt b7 0 (z01 R)) w:=t1 _ _ hp
  have last:wpAnyH Tryz.prog .any z4I Q (fun W:World=>W.cell? ⟨b5,0,none⟩=some (.int .u8 (h:Int))/\W.cell? ⟨b5,1,none⟩=some (.int .u64 (k:Int))/\W.rangeAt b6 0 (z01 L)/\W.rangeAt b7 0 (z01 R)) 1 #[tt,tt,tt,tt,tt,tt,ff] {tmps:=#[.map (some mb),.int .i64 d,b,f,g,.pointer (some ⟨b5,0,none⟩),.pointer (some ⟨b6,0,none⟩),.pointer (some ⟨b7,0,none⟩),i,j,l,m,n,p,q,r,s,u,x,y,z,A,B,C,D,E,F,.map (some mb),.agg #[.int .u8 (h:Int),.int .u64 (k:Int)],.int .i64 d,.agg (z01 L).toArray,.agg (z01 R).toArray,X],defers:=[]} w:=by
   obtain ⟨w',hr,hp⟩:=s1 X w hp;refine z2i (o:=VJOPSq6) 6 (by kernel_rfl) rfl (fun K hK=>?_);exact z1W rfl (z6I hr) (hK.out _ _ (t2 _ _ hp) (fun _=>k2 X w' hp))
  exact last
 have k0:∀ (w:World),P0 w->wpAnyH Tryz.prog .any z4I Q (fun W:World=>W.cell? ⟨b5,0,none⟩=some (.int .u8 (h:Int))/\W.cell? ⟨b5,1,none⟩=some (.int .u64 (k:Int))/\W.rangeAt b6 0 (z01 L)/\W.rangeAt b7 0 (z01 R)) 7 #[ff,ff,ff,ff,ff,ff,ff] {tmps:=#[.map (some mb),.int .i64 d,b,f,g,.pointer (some ⟨b5,0,none⟩),.pointer (some ⟨b6,0,none⟩),.pointer (some ⟨b7,0,none⟩),i,j,l,m,n,p,q,r,s,u,x,y,z,A,B,C,D,E,F,G,H,I,J,M,N],defers:=[]} w:=fun  w hp=>by
  have hww:(fun W:World=>W.cell? ⟨b5,0,none⟩=some (.int .u8 (h:Int))/\W.cell? ⟨b5,1,none⟩=some (.int .u64 (k:Int))/\W.rangeAt b6 0 (z01 L)/\W.rangeAt b7 0 (z01 R)) w:=t0 _ hp
  have last:wpAnyH Tryz.prog .any z4I Q (fun W:World=>W.cell? ⟨b5,0,none⟩=some (.int .u8 (h:Int))/\W.cell? ⟨b5,1,none⟩=some (.int .u64 (k:Int))/\W.rangeAt b6 0 (z01 L)/\W.rangeAt b7 0 (z01 R)) 2 #[tt,tt,tt,tt,tt,ff,ff] {tmps:=#[.map (some mb),.int .i64 d,b,f,g,.pointer (some ⟨b5,0,none⟩),.pointer (some ⟨b6,0,none⟩),.pointer (some ⟨b7,0,none⟩),i,j,l,m,n,p,q,r,s,u,x,y,z,A,B,C,D,E,F,.map (some mb),.agg #[.int .u8 (h:Int),.int .u64 (k:Int)],.int .i64 d,.agg (z01 L).toArray,.agg (z01 R).toArray,N],defers:=[]} w:=by
   refine z2i (o:=VJOPSq5) 5 (by kernel_rfl) rfl (fun K hK=>?_);rw [if_pos (by rfl)];go_simp;refine (c1 w hp).mono ?_;rintro e w' ⟨X,rfl,hp⟩;exact hK.out _ _ (t1 _ _ hp) (fun _=>k1 X w' hp)
  refine tkP VJOPSq0 (.map (some mb)) 0 hQ hww ?_;simp only [List.set];refine tkH VJOPSq1 (.agg #[.int .u8 (h:Int),.int .u64 (k:Int)]) 1 hQ (Or.inl ⟨by rfl,fun w hw=>by have hx:=hw.1;have hy:=hw.2.1;go_simp⟩) hww ?_;simp only [List.set];refine tkP VJOPSq2 (.int .i64 d) 2 hQ hww ?_;simp only [List.set];refine tkH VJOPSq3 (.agg (z01 L).toArray) 3 hQ (yieldsIf_load_mid (by rfl) 24 (.tmp 6) rfl b6 0 rfl (z01 L) _ (fun w h=>h.2.2.1) Tryz.underlying24 rfl (z09 hL)) hww ?_;simp only [List.set];refine tkH VJOPSq4 (.agg (z01 R).toArray) 4 hQ (yieldsIf_load_mid (by rfl) 24 (.tmp 7) rfl b7 0 rfl (z01 R) _ (fun w h=>h.2.2.2) Tryz.underlying24 rfl (z09 hR)) hww ?_;simp only [List.set];exact last
 have hp:=h0;exact wp_region_held_drew (S:=(fun W:World=>W.cell? ⟨b5,0,none⟩=some (.int .u8 (h:Int))/\W.cell? ⟨b5,1,none⟩=some (.int .u64 (k:Int))/\W.rangeAt b6 0 (z01 L)/\W.rangeAt b7 0 (z01 R))) (by kernel_rfl) (t0 _ hp) (fun _=>k0 _ hp)
@[go_sem] def VFOPSq0:Oper:=⟨some 25,.move (.tmp 0),3,"grow.go:30",#[],none⟩
@[go_sem] def VFOPSq1:Oper:=⟨some 26,.move (.tmp 1),38,"grow.go:30",#[],none⟩
@[go_sem] def VFOPSq2:Oper:=⟨some 27,.move (.tmp 7),3,"grow.go:30",#[],none⟩
@[go_sem] def VFOPSq3:Oper:=⟨some 28,.indexAddr 38 (.tmp 26) (.tmp 27),0,"grow.go:30",#[⟨1,.data⟩,⟨2,.data⟩],none⟩
@[go_sem] def VFOPSq4:Oper:=⟨some 29,.load 24 (.tmp 28),24,"grow.go:30",#[⟨3,.data⟩],none⟩
@[go_sem] def VFOPSq5:Oper:=⟨some 30,.load 24 (.tmp 6),24,"grow.go:30",#[],none⟩
@[go_sem] def VFOPSq6:Oper:=⟨some 31,.call {callee:=.value (.func 127),args:=#[.tmp 25,.tmp 29,.tmp 30],argTypes:=#[3,24,24]},24,"grow.go:30",#[⟨0,.data⟩,⟨4,.data⟩,⟨5,.data⟩],none⟩
@[go_sem] def VFOPSq7:Oper:=⟨none,.store 24 (.tmp 6) (.tmp 31),0,"grow.go:30",#[⟨6,.data⟩,⟨6,.chain⟩,⟨0,.phase⟩,⟨1,.phase⟩,⟨2,.phase⟩,⟨3,.phase⟩,⟨4,.phase⟩,⟨5,.phase⟩,⟨6,.phase⟩],none⟩
def z3V:Array Oper:=#[VFOPSq0,VFOPSq1,VFOPSq2,VFOPSq3,VFOPSq4,VFOPSq5,VFOPSq6,VFOPSq7]
theorem z9v {Q:Exit->Act->World->Prop} (b f g j k l m p q r u x y A B C D E F G H I J M N O S U V:Value) (W:World) (b6 gn o n c i:Nat) (d:Int) (L R Y:List Int) (hL:L.length=32) (hR:R.length=32) (hY:Y.length=32) (b1:(i:Int)<(n:Int)) (hLr:W.drew.rangeAt gn (o+i*32) (z01 L)) (hRr:W.drew.rangeAt b6 0 (z01 R)) (T:World->Prop) (cF:Calls Tryz.prog 127 #[.int .i64 d,.agg (z01 L).toArray,.agg (z01 R).toArray] W.drew fun e w'=>∃ X,e=.returned X/\(X=.agg (z01 Y).toArray/\Has w' b6 (z01 R).toArray 24/\T w')) (hQ:∀ c (a:Act) (t:Tmp) (v:Value) w,Q (.panic c) (a.put (some t) v) w->Q (.panic c) a w)
  (h:∀ (X:Value) (w':World),(X=.agg (z01 Y).toArray/\Has w' b6 (z01 R).toArray 24/\T w')->Q .normal {tmps:=#[.int .i64 d,.slice (some ⟨gn,o,none⟩) n c,b,f,g,j,.pointer (some ⟨b6,0,none⟩),.int .i64 (i:Int),k,l,m,p,q,r,u,x,y,A,B,C,D,E,F,G,H,.int .i64 d,.slice (some ⟨gn,o,none⟩) n c,.int .i64 (i:Int),.pointer (some ⟨gn,o+i*32,none⟩),.agg (z01 L).toArray,.agg (z01 R).toArray,X,V],defers:=[]} (World.setRow w' b6 (z01 Y).toArray)):(Code.region 8 z3V true).wp Tryz.prog Q {tmps:=#[.int .i64 d,.slice (some ⟨gn,o,none⟩) n c,b,f,g,j,.pointer (some ⟨b6,0,none⟩),.int .i64 (i:Int),k,l,m,p,q,r,u,x,y,A,B,C,D,E,F,G,H,I,J,M,N,O,S,U,V],defers:=[]} W:=by
 have kX:∀ (X:Value) (w':World),(X=.agg (z01 Y).toArray/\Has w' b6 (z01 R).toArray 24/\T w')->wpAny Tryz.prog .any z3V Q 1 #[tt,tt,tt,tt,tt,tt,tt,ff] {tmps:=#[.int .i64 d,.slice (some ⟨gn,o,none⟩) n c,b,f,g,j,.pointer (some ⟨b6,0,none⟩),.int .i64 (i:Int),k,l,m,p,q,r,u,x,y,A,B,C,D,E,F,G,H,.int .i64 d,.slice (some ⟨gn,o,none⟩) n c,.int .i64 (i:Int),.pointer (some ⟨gn,o+i*32,none⟩),.agg (z01 L).toArray,.agg (z01 R).toArray,X,V],defers:=[]} w':=fun X w' hX=>by
  have z:wpAny Tryz.prog .any z3V Q 0 #[tt,tt,tt,tt,tt,tt,tt,tt] {tmps:=#[.int .i64 d,.slice (some ⟨gn,o,none⟩) n c,b,f,g,j,.pointer (some ⟨b6,0,none⟩),.int .i64 (i:Int),k,l,m,p,q,r,u,x,y,A,B,C,D,E,F,G,H,.int .i64 d,.slice (some ⟨gn,o,none⟩) n c,.int .i64 (i:Int),.pointer (some ⟨gn,o+i*32,none⟩),.agg (z01 L).toArray,.agg (z01 R).toArray,X,V],defers:=[]} (World.setRow w' b6 (z01 Y).toArray):=wpAny_done (by kernel_rfl) (h X w' hX) _
  have z7:wpAny Tryz.prog .any z3V Q 1 #[tt,tt,tt,tt,tt,tt,tt,ff] {tmps:=#[.int .i64 d,.slice (some ⟨gn,o,none⟩) n c,b,f,g,j,.pointer (some ⟨b6,0,none⟩),.int .i64 (i:Int),k,l,m,p,q,r,u,x,y,A,B,C,D,E,F,G,H,.int .i64 d,.slice (some ⟨gn,o,none⟩) n c,.int .i64 (i:Int),.pointer (some ⟨gn,o+i*32,none⟩),.agg (z01 L).toArray,.agg (z01 R).toArray,X,V],defers:=[]} w':=by
   refine wpAny_ready (rs:=[7]) (by kernel_rfl) (by simp) ?_;exact AllReady.cons (o:=VFOPSq7) rfl (fun K hK=>z1W rfl (z6I (by obtain ⟨rfl,hb,_⟩:=hX;exact zbn hb hR hY)) (hK _ _ z)) AllReady.nil
  exact z7
 have s4_5:wpAny Tryz.prog .any z3V Q 2 #[tt,tt,tt,tt,tt,tt,ff,ff] {tmps:=#[.int .i64 d,.slice (some ⟨gn,o,none⟩) n c,b,f,g,j,.pointer (some ⟨b6,0,none⟩),.int .i64 (i:Int),k,l,m,p,q,r,u,x,y,A,B,C,D,E,F,G,H,.int .i64 d,.slice (some ⟨gn,o,none⟩) n c,.int .i64 (i:Int),.pointer (some ⟨gn,o+i*32,none⟩),.agg (z01 L).toArray,.agg (z01 R).toArray,U,V],defers:=[]} W.drew:=by
  refine wpAny_ready (rs:=[6]) (by kernel_rfl) (by simp) ?_;refine AllReady.cons (o:=VFOPSq6) rfl (fun K hK=>?_) ?_
  ·rw [if_pos (by rfl)]
   go_simp;refine (cF).mono ?_;rintro e w' ⟨X,rfl,hX⟩;exact hK _ _ (kX X w' hX)
  exact AllReady.nil
 have s5:wpAny Tryz.prog .any z3V Q 3 #[tt,tt,tt,tt,ff,tt,ff,ff] {tmps:=#[.int .i64 d,.slice (some ⟨gn,o,none⟩) n c,b,f,g,j,.pointer (some ⟨b6,0,none⟩),.int .i64 (i:Int),k,l,m,p,q,r,u,x,y,A,B,C,D,E,F,G,H,.int .i64 d,.slice (some ⟨gn,o,none⟩) n c,.int .i64 (i:Int),.pointer (some ⟨gn,o+i*32,none⟩),O,.agg (z01 R).toArray,U,V],defers:=[]} W.drew:=by
  refine wpAny_ready (rs:=[4]) (by kernel_rfl) (by simp) ?_;refine AllReady.cons (o:=VFOPSq4) rfl (fun K hK=>z4H (v:=.agg (z01 L).toArray) rfl (z3U (run_loadAt_mid (P:=Tryz.prog) _ gn (o+i*32) 24 _ _ hLr Tryz.underlying24 rfl (z09 hL))) (hK _ _ s4_5)) ?_;exact AllReady.nil
 have s4:wpAny Tryz.prog .any z3V Q 3 #[tt,tt,tt,tt,tt,ff,ff,ff] {tmps:=#[.int .i64 d,.slice (some ⟨gn,o,none⟩) n c,b,f,g,j,.pointer (some ⟨b6,0,none⟩),.int .i64 (i:Int),k,l,m,p,q,r,u,x,y,A,B,C,D,E,F,G,H,.int .i64 d,.slice (some ⟨gn,o,none⟩) n c,.int .i64 (i:Int),.pointer (some ⟨gn,o+i*32,none⟩),.agg (z01 L).toArray,S,U,V],defers:=[]} W.drew:=by
  refine wpAny_ready (rs:=[5]) (by kernel_rfl) (by simp) ?_;refine AllReady.cons (o:=VFOPSq5) rfl (fun K hK=>z4H (v:=.agg (z01 R).toArray) rfl (z3U (run_loadAt_mid (P:=Tryz.prog) _ b6 0 24 _ _ hRr Tryz.underlying24 rfl (z09 hR))) (hK _ _ s4_5)) ?_;exact AllReady.nil
 have s:wpAny Tryz.prog .any z3V Q 4 #[tt,tt,tt,tt,ff,ff,ff,ff] {tmps:=#[.int .i64 d,.slice (some ⟨gn,o,none⟩) n c,b,f,g,j,.pointer (some ⟨b6,0,none⟩),.int .i64 (i:Int),k,l,m,p,q,r,u,x,y,A,B,C,D,E,F,G,H,.int .i64 d,.slice (some ⟨gn,o,none⟩) n c,.int .i64 (i:Int),.pointer (some ⟨gn,o+i*32,none⟩),O,S,U,V],defers:=[]} W.drew:=by
  refine wpAny_ready (rs:=[4,5]) (by kernel_rfl) (by simp) ?_;refine AllReady.cons (o:=VFOPSq4) rfl (fun K hK=>z4H (v:=.agg (z01 L).toArray) rfl (z3U (run_loadAt_mid (P:=Tryz.prog) _ gn (o+i*32) 24 _ _ hLr Tryz.underlying24 rfl (z09 hL))) (hK _ _ s4)) ?_;refine AllReady.cons (o:=VFOPSq5) rfl (fun K hK=>z4H (v:=.agg (z01 R).toArray) rfl (z3U (run_loadAt_mid (P:=Tryz.prog) _ b6 0 24 _ _ hRr Tryz.underlying24 rfl (z09 hR))) (hK _ _ s5)) ?_;exact AllReady.nil
 refine wp_region_any (by kernel_rfl) ?_;refine tkB VFOPSq0 (.int .i64 d) 0 hQ ?_;simp only [List.set];refine tkB VFOPSq1 (.slice (some ⟨gn,o,none⟩) n c) 1 hQ ?_;simp only [List.set];refine tkB VFOPSq2 (.int .i64 (i:Int)) 2 hQ ?_;simp only [List.set];refine tkB VFOPSq3 (.pointer (some ⟨gn,o+i*32,none⟩)) 3 hQ ?_;simp only [List.set];exact s
end Go.Proofs.YtdggkbpabjgdfaaGreatDoor
namespace Go.Proofs.YtdggkbpabjgdfaaGreatDoor.HX
open Go.RowKit
def ROTR (n x:Nat):Nat:=x / 2 ^ n+x % 2 ^ n*2 ^ (32 - n)
theorem z0E {n x:Nat} (hn:n<=32) (hx:x<2 ^ 32):ROTR n x<2 ^ 32:=by
 unfold ROTR;have h1:(2:Nat) ^ 32=2 ^ n*2 ^ (32 - n):=by rw [<-Nat.pow_add];congr 1;omega
 have h2:x / 2 ^ n<2 ^ (32 - n):=by
  apply Nat.div_lt_of_lt_mul;rw [<-h1];exact hx
 have h3:x % 2 ^ n+1<=2 ^ n:=Nat.mod_lt _ (Nat.two_pow_pos n);have h4:=Nat.mul_le_mul_right (2 ^ (32 - n)) h3;rw [Nat.add_mul,Nat.one_mul,<-h1] at h4;omega
theorem ziL {n x:Nat} (hn:n<=32) (hx:x<2 ^ 32):x*2 ^ (32 - n) % 2 ^ 32 ||| x / 2 ^ n=ROTR n x:=by
 have h1:(2:Nat) ^ 32=2 ^ n*2 ^ (32 - n):=by rw [<-Nat.pow_add];congr 1;omega
 have h2:x / 2 ^ n<2 ^ (32 - n):=by
  apply Nat.div_lt_of_lt_mul;rw [<-h1];exact hx
 have h3:x*2 ^ (32 - n) % 2 ^ 32=x % 2 ^ n*2 ^ (32 - n):=by
  rw [h1,Nat.mul_mod_mul_right]
 rw [h3,nat_join (32 - n) _ _ (Nat.mul_mod_left _ _) h2];unfold ROTR;omega
def MIX (i j k x:Nat):Nat:=ROTR i x ^^^ ROTR j x ^^^ ROTR k x
def z19 (i j k x:Nat):Nat:=ROTR i x ^^^ ROTR j x ^^^ x / 2 ^ k
def CHO (x y z:Nat):Nat:=(x &&& y) ^^^ ((4294967295 - x) &&& z)
def MAJ (x y z:Nat):Nat:=(x &&& y) ^^^ (x &&& z) ^^^ (y &&& z)
theorem zeH {i j k x:Nat} (hi:i<=32) (hj:j<=32) (hk:k<=32) (hx:x<2 ^ 32):MIX i j k x<2 ^ 32:=Nat.xor_lt_two_pow (Nat.xor_lt_two_pow (z0E hi hx) (z0E hj hx)) (z0E hk hx)
theorem zaf {i j k x:Nat} (hi:i<=32) (hj:j<=32) (hx:x<2 ^ 32):z19 i j k x<2 ^ 32:=Nat.xor_lt_two_pow (Nat.xor_lt_two_pow (z0E hi hx) (z0E hj hx)) (Nat.lt_of_le_of_lt (Nat.div_le_self _ _) hx)
theorem zeI {x y z:Nat} (hx:x<2 ^ 32) (hz:z<2 ^ 32):CHO x y z<2 ^ 32:=Nat.xor_lt_two_pow (Nat.lt_of_le_of_lt Nat.and_le_left hx) (Nat.lt_of_le_of_lt Nat.and_le_right hz)
theorem zeJ {x y z:Nat} (hx:x<2 ^ 32) (hy:y<2 ^ 32):MAJ x y z<2 ^ 32:=Nat.xor_lt_two_pow (Nat.xor_lt_two_pow (Nat.lt_of_le_of_lt Nat.and_le_left hx) (Nat.lt_of_le_of_lt Nat.and_le_left hx)) (Nat.lt_of_le_of_lt Nat.and_le_left hy)
def z0a (s:Nat->Nat) (o:Nat):Nat:=s o*16777216+s (o+1)*65536+s (o+2)*256+s (o+3)
theorem z1C {s:Nat->Nat} (o:Nat) (h:∀ i,s i<256):z0a s o<2 ^ 32:=by
 have h0:=h o;have h1:=h (o+1);have h2:=h (o+2);have h3:=h (o+3);unfold z0a;omega
def SCHL (b:Nat->Nat):Nat->Nat->Nat
 | 0,t=>if t<16 then z0a b (4*t) else 0
 | k+1,t=>if t=16+k then (z19 17 19 10 (SCHL b k (14+k))+SCHL b k (9+k)+z19 7 18 3 (SCHL b k (1+k))+SCHL b k k) % 4294967296 else SCHL b k t
def SCH (b:Nat->Nat):Nat->Nat:=SCHL b 48
theorem z2C {b:Nat->Nat} (h:∀ i,b i<256):∀ k t,SCHL b k t<2 ^ 32
 | 0,t=>by
   unfold SCHL;split
   ·exact z1C _ h
   ·decide
 | k+1,t=>by
   unfold SCHL;split
   ·exact Nat.mod_lt _ (by decide)
   ·exact z2C h k t
theorem z2L (b:Nat->Nat) (k:Nat):∀ m t,t<16+k->SCHL b (k+m) t=SCHL b k t
 | 0,_,_=>rfl
 | m+1,t,h=>by
   show SCHL b (k+m+1) t=_;rw [SCHL,if_neg (by omega)];exact z2L b k m t h
theorem zeK (b:Nat->Nat) (t:Nat) (h:t<16):SCH b t=z0a b (4*t):=by
 have:=z2L b 0 48 t (by omega);rw [Nat.zero_add] at this;show SCHL b 48 t=_;rw [this,SCHL,if_pos h]
theorem zgr (b:Nat->Nat) (k:Nat) (h:k<48):SCH b (16+k)=(z19 17 19 10 (SCH b (14+k))+SCH b (9+k)+z19 7 18 3 (SCH b (1+k))+SCH b k) % 4294967296:=by
 have e:∀ t,t<16+k->SCH b t=SCHL b k t:=fun t ht=>by
  have:=z2L b k (48 - k) t ht;rw [show k+(48 - k)=48 by omega] at this;exact this
 have e1:SCH b (16+k)=SCHL b (k+1) (16+k):=by
  have:=z2L b (k+1) (48 - (k+1)) (16+k) (by omega);rw [show k+1+(48 - (k+1))=48 by omega] at this;exact this
 rw [e1,SCHL,if_pos rfl,e _ (by omega),e _ (by omega),e _ (by omega),e _ (by omega)]
def KLIST:List Nat:=[1116352408,1899447441,3049323471,3921009573,961987163,1508970993,2453635748,2870763221,3624381080,310598401,607225278,1426881987,1925078388,2162078206,2614888103,3248222580,3835390401,4022224774,264347078,604807628,770255983,1249150122,1555081692,1996064986,2554220882,2821834349,2952996808,3210313671,3336571891,3584528711,113926993,338241895,666307205,773529912,1294757372,1396182291,1695183700,1986661051,2177026350,2456956037,2730485921,2820302411,3259730800,3345764771,3516065817,3600352804,4094571909,275423344,430227734,506948616,659060556,883997877,958139571,1322822218,1537002063,1747873779,1955562222,2024104815,2227730452,2361852424,2428436474,2756734187,3204031479,3329325298]
def KC (t:Nat):Nat:=KLIST.getD t 0
theorem zjf (t:Nat):KC t<2 ^ 32:=by
 by_cases h:t<64
 ·have:∀ i,i<64->KC i<2 ^ 32:=by decide
  exact this t h
 ·have:KLIST.length=64:=rfl
  unfold KC;rw [List.getD_eq_getElem?_getD,List.getElem?_eq_none (by omega)];decide
structure ST where
 a:Nat
 b:Nat
 c:Nat
 d:Nat
 e:Nat
 f:Nat
 g:Nat
 h:Nat
def T1 (k x:Nat) (s:ST):Nat:=(s.h+MIX 6 11 25 s.e+CHO s.e s.f s.g+k+x) % 4294967296
def T2 (s:ST):Nat:=(MIX 2 13 22 s.a+MAJ s.a s.b s.c) % 4294967296
def RND (k x:Nat) (s:ST):ST:={a:=(T1 k x s+T2 s) % 4294967296,b:=s.a,c:=s.b,d:=s.c,e:=(s.d+T1 k x s) % 4294967296,f:=s.e,g:=s.f,h:=s.g}
def Small (s:ST):Prop:=s.a<2 ^ 32/\s.b<2 ^ 32/\s.c<2 ^ 32/\s.d<2 ^ 32/\s.e<2 ^ 32/\s.f<2 ^ 32/\s.g<2 ^ 32/\s.h<2 ^ 32
theorem Small.rnd {s:ST} (h:Small s) (k x:Nat):Small (RND k x s):=by
 obtain ⟨h1,h2,h3,h4,h5,h6,h7,h8⟩:=h;exact ⟨Nat.mod_lt _ (by decide),h1,h2,h3,Nat.mod_lt _ (by decide),h5,h6,h7⟩
def RUN (x:Nat->Nat) (s:ST):Nat->ST
 | 0=>s
 | t+1=>RND (KC t) (x t) (RUN x s t)
theorem z5o (x:Nat->Nat) {s:ST} (h:Small s):∀ t,Small (RUN x s t)
 | 0=>h
 | t+1=>(z5o x h t).rnd _ _
def STOF (s:Nat->Nat):ST:={a:=z0a s 0,b:=z0a s 4,c:=z0a s 8,d:=z0a s 12,e:=z0a s 16,f:=z0a s 20,g:=z0a s 24,h:=z0a s 28}
theorem z7l {s:Nat->Nat} (h:∀ i,s i<256):Small (STOF s):=
 ⟨z1C _ h,z1C _ h,z1C _ h,z1C _ h,z1C _ h,z1C _ h,z1C _ h,z1C _ h⟩
def ST.at (s:ST):Nat->Nat
 | 0=>s.a
 | 1=>s.b
 | 2=>s.c
 | 3=>s.d
 | 4=>s.e
 | 5=>s.f
 | 6=>s.g
 | 7=>s.h
 | _=>0
def OUTW (s b:Nat->Nat) (i:Nat):Nat:=(z0a s (4*i)+(RUN (SCH b) (STOF s) 64).at i) % 4294967296
def z0g (x:Nat->Nat) (i:Nat):Nat:=x (i / 4) / 2 ^ (24 - 8*(i % 4)) % 256
def WID (w:Int):Nat:=(min (max w 1) 32).toNat
def z0J (w:Int) (s:Nat->Nat) (i:Nat):Nat:=if i<WID w then s i else 0
def COMP (w:Int) (s b:Nat->Nat):Nat->Nat:=z0J w (z0g (OUTW s b))
theorem zag (x:Nat->Nat) (i:Nat):z0g x i<256:=Nat.mod_lt _ (by decide)
theorem z8O {w:Int} {s:Nat->Nat} (h:∀ i,s i<256) (i:Nat):z0J w s i<256:=by
 unfold z0J;split
 ·exact h i
 ·decide
theorem zhQ (w:Int) (s b:Nat->Nat) (i:Nat):COMP w s b i<256:=z8O (zag _) i
theorem zd4 (w:Int):1<=WID w/\WID w<=32:=by unfold WID;omega
theorem z61 (z:Int):IntKind.u32.wrap z=z % 2 ^ 32:=by rw [IntKind.wrap_u32];rfl
theorem z3W {a b:Nat} (ha:a<2 ^ 32) (hb:b<2 ^ 32):bits .xor .u32 (a:Int) (b:Int)=((a ^^^ b:Nat):Int):=u32_xor_nat a b ha hb
theorem z7m {a b:Nat} (ha:a<2 ^ 32) (hb:b<2 ^ 32):bits .and .u32 (a:Int) (b:Int)=((a &&& b:Nat):Int):=u32_and_nat a b ha hb
theorem or32 {a b:Nat} (ha:a<2 ^ 32) (hb:b<2 ^ 32):bits .or .u32 (a:Int) (b:Int)=((a ||| b:Nat):Int):=u32_or_nat a b ha hb
theorem zgs (x n s a b r:Int) (w:World) (hs:bits .and .u64 (IntKind.u64.wrap n) 31=s) (h0:0<=s) (h1:0<=IntKind.u64.wrap (32 - s)) (ha:IntKind.u32.wrap (x*2 ^ min s.toNat 32)=a) (hb:x / 2 ^ min (IntKind.u64.wrap (32 - s)).toNat 32=b) (hr:bits .or .u32 a b=r):
  Calls Tryz.prog 148 #[.int .u32 x,.int .i64 n] w fun e w'=>e=.returned (.int .u32 r)/\w=w':=by
 go_enter Tryz.func148,Tryz.ntmps148;go_wp2;go_ret;exact ⟨rfl,rfl⟩
theorem zjg (n:Nat) (h1:1<=n) (h2:n<32):bits .and .u64 (IntKind.u64.wrap (wrap64 (-(n:Int)))) 31=((32 - n:Nat):Int):=by
 have e:IntKind.u64.wrap (wrap64 (-(n:Int)))=((18446744073709551616 - n:Nat):Int):=by
  rw [z08];unfold wrap64;omega
 have f:(31:Int)=((31:Nat):Int):=rfl;rw [e,f,z5c (by omega) (by decide)];congr 1
 have:(31:Nat)=2 ^ 5 - 1:=rfl;rw [this,Nat.and_two_pow_sub_one_eq_mod];omega
theorem zhR (X n:Nat) (hX:X<2 ^ 32) (h1:1<=n) (h2:n<32) (w:World):Calls Tryz.prog 148 #[.int .u32 (X:Int),.int .i64 (wrap64 (-(n:Int)))] w fun e w'=>e=.returned (.int .u32 ((ROTR n X:Nat):Int))/\w=w':=by
 have e:IntKind.u64.wrap (32 - ((32 - n:Nat):Int))=(n:Int):=by rw [z08];omega
 refine zgs X _ ((32 - n:Nat):Int) ((X*2 ^ (32 - n) % 2 ^ 32:Nat):Int) ((X / 2 ^ n:Nat):Int) _ w (zjg n h1 h2) (by omega) (by rw [e];omega) ?_ ?_ ?_
 ·rw [Int.toNat_natCast,show min (32 - n) 32=32 - n by omega,z61]
  simp
 ·rw [e,Int.toNat_natCast,show min n 32=n by omega,z1K]
 ·rw [or32 (Nat.mod_lt _ (by decide)) (Nat.lt_of_le_of_lt (Nat.div_le_self _ _) hX),ziL (by omega) hX]
theorem z5h (x n r:Int) (w:World) (c:∀ w,Calls Tryz.prog 148 #[.int .u32 x,.int .i64 (wrap64 (-n))] w fun e w'=>e=.returned (.int .u32 r)/\w=w'):
  Calls Tryz.prog 142 #[.int .u32 x,.int .i64 n] w fun e w'=>e=.returned (.int .u32 r)/\w=w':=by
 go_enter Tryz.func142,Tryz.ntmps142;go_wp2_with fail
 refine (c _).mono ?_;rintro e w' ⟨rfl,rfl⟩;go_wp2;go_ret;exact ⟨rfl,rfl⟩
theorem z2v (X n:Nat) (hX:X<2 ^ 32) (h1:1<=n) (h2:n<32) (w:World):Calls Tryz.prog 142 #[.int .u32 (X:Int),.int .i64 (n:Int)] w fun e w'=>e=.returned (.int .u32 ((ROTR n X:Nat):Int))/\w=w':=
 z5h X n _ w (fun w=>zhR X n hX h1 h2 w)
theorem zhS (x i j k a b c p r:Int) (w:World) (e1:bits .xor .u32 a b=p) (e2:bits .xor .u32 p c=r)
  (ca:∀ w,Calls Tryz.prog 142 #[.int .u32 x,.int .i64 i] w fun e w'=>e=.returned (.int .u32 a)/\w=w')
  (cb:∀ w,Calls Tryz.prog 142 #[.int .u32 x,.int .i64 j] w fun e w'=>e=.returned (.int .u32 b)/\w=w')
  (cc:∀ w,Calls Tryz.prog 142 #[.int .u32 x,.int .i64 k] w fun e w'=>e=.returned (.int .u32 c)/\w=w'):
  Calls Tryz.prog 121 #[.int .u32 x,.int .i64 i,.int .i64 j,.int .i64 k] w fun e w'=>e=.returned (.int .u32 r)/\w=w':=by
 go_enter Tryz.func121,Tryz.ntmps121;go_wp2_with fail
 refine (ca _).mono ?_;rintro e w' ⟨rfl,rfl⟩;clear ca;go_wp2_with fail
 refine (cb _).mono ?_;rintro e w' ⟨rfl,rfl⟩;clear cb;go_wp2_with fail
 refine (cc _).mono ?_;rintro e w' ⟨rfl,rfl⟩;clear cc;go_wp2;go_ret;exact ⟨rfl,rfl⟩
theorem zeL (X i j k:Nat) (hX:X<2 ^ 32) (hi:1<=i/\i<32) (hj:1<=j/\j<32) (hk:1<=k/\k<32) (w:World):Calls Tryz.prog 121 #[.int .u32 (X:Int),.int .i64 (i:Int),.int .i64 (j:Int),.int .i64 (k:Int)] w fun e w'=>e=.returned (.int .u32 ((MIX i j k X:Nat):Int))/\w=w':=
 zhS X i j k _ _ _ _ _ w (z3W (z0E (by omega) hX) (z0E (by omega) hX)) (z3W (Nat.xor_lt_two_pow (z0E (by omega) hX) (z0E (by omega) hX)) (z0E (by omega) hX)) (fun w=>z2v X i hX hi.1 hi.2 w) (fun w=>z2v X j hX hj.1 hj.2 w) (fun w=>z2v X k hX hk.1 hk.2 w)
theorem zgt {X:Nat} (hX:X<2 ^ 32):4294967295 ^^^ X=4294967295 - X:=by
 apply Nat.eq_of_testBit_eq;intro i;have e:(4294967295:Nat)=2 ^ 32 - 1:=rfl;have e2:4294967295 - X=2 ^ 32 - (X+1):=by omega
 rw [e2,Nat.testBit_two_pow_sub_succ hX,Nat.testBit_xor,e,Nat.testBit_two_pow_sub_one];by_cases h:i<32
 ·simp [h]
 ·have:X.testBit i=false:=Nat.testBit_lt_two_pow (Nat.lt_of_lt_of_le hX (Nat.pow_le_pow_right (by decide) (by omega)))
  simp [h,this]
theorem zjh {X:Nat} (hX:X<2 ^ 32):bits .xor .u32 IntKind.u32.max (X:Int)=((4294967295 - X:Nat):Int):=by
 rw [<-zgt hX];exact z3W (a:=4294967295) (by decide) hX
theorem zd5 (x y z p q s r:Int) (w:World) (e1:bits .and .u32 x y=p) (e2:bits .xor .u32 IntKind.u32.max x=q) (e3:bits .and .u32 q z=s) (e4:bits .xor .u32 p s=r):
  Calls Tryz.prog 122 #[.int .u32 x,.int .u32 y,.int .u32 z] w fun e w'=>e=.returned (.int .u32 r)/\w=w':=by
 go_enter Tryz.func122,Tryz.ntmps122;go_wp2;go_ret;exact ⟨rfl,rfl⟩
theorem zeM (X Y Z:Nat) (hX:X<2 ^ 32) (hY:Y<2 ^ 32) (hZ:Z<2 ^ 32) (w:World):Calls Tryz.prog 122 #[.int .u32 (X:Int),.int .u32 (Y:Int),.int .u32 (Z:Int)] w fun e w'=>e=.returned (.int .u32 ((CHO X Y Z:Nat):Int))/\w=w':=
 zd5 X Y Z _ ((4294967295 - X:Nat):Int) _ _ w (z7m hX hY) (zjh hX) (z7m (by omega) hZ) (z3W (Nat.lt_of_le_of_lt Nat.and_le_left hX) (Nat.lt_of_le_of_lt Nat.and_le_right hZ))
theorem zah (x y z p q s t r:Int) (w:World) (e1:bits .and .u32 x y=p) (e2:bits .and .u32 x z=q) (e3:bits .xor .u32 p q=s) (e4:bits .and .u32 y z=t) (e5:bits .xor .u32 s t=r):
  Calls Tryz.prog 123 #[.int .u32 x,.int .u32 y,.int .u32 z] w fun e w'=>e=.returned (.int .u32 r)/\w=w':=by
 go_enter Tryz.func123,Tryz.ntmps123;go_wp2;go_ret;exact ⟨rfl,rfl⟩
theorem zbp (X Y Z:Nat) (hX:X<2 ^ 32) (hY:Y<2 ^ 32) (hZ:Z<2 ^ 32) (w:World):Calls Tryz.prog 123 #[.int .u32 (X:Int),.int .u32 (Y:Int),.int .u32 (Z:Int)] w fun e w'=>e=.returned (.int .u32 ((MAJ X Y Z:Nat):Int))/\w=w':=
 zah X Y Z _ _ _ _ _ w (z7m hX hY) (z7m hX hZ) (z3W (Nat.lt_of_le_of_lt Nat.and_le_left hX) (Nat.lt_of_le_of_lt Nat.and_le_left hX)) (z7m hY hZ) (z3W (Nat.xor_lt_two_pow (Nat.lt_of_le_of_lt Nat.and_le_left hX) (Nat.lt_of_le_of_lt Nat.and_le_left hX)) (Nat.lt_of_le_of_lt Nat.and_le_left hY))
theorem z0M {P:Program} {f:FuncId} {args:Array Value} {w:World} {n:Nat} {v:Value}
  (h:Calls P f args (w.drewN n) fun e w'=>e=.returned v/\w.drewN n=w'):Calls P f args (w.drewN n) fun e w''=>e=.returned v/\∃ m,w''=w.drewN m:=
 h.mono fun _ _ ⟨he,hm⟩=>⟨he,n,hm.symm⟩
theorem zeN (x i j k c p r:Int) (R:Int->Int) (w:World) (hi:1<=i/\i<32) (hj:1<=j/\j<32) (hk:0<=k) (e1:bits .xor .u32 (R i) (R j)=p) (e2:bits .xor .u32 p c=r) (e3:x / 2 ^ min k.toNat 32=c)
  (ca:∀ n:Int,1<=n/\n<32->∀ w,Calls Tryz.prog 142 #[.int .u32 x,.int .i64 n] w fun e w'=>e=.returned (.int .u32 (R n))/\w=w'):
  Calls Tryz.prog 141 #[.int .u32 x,.int .i64 i,.int .i64 j,.int .i64 k] w fun e w'=>e=.returned (.int .u32 r)/\∃ m,w'=w.drewN m:=by
 go_enter Tryz.func141,Tryz.ntmps141;go_wp2;go_quiet ((go_at_call 142;exact z0M (ca _ (by assumption) _)))
 go_wp2;go_ret;exact ⟨rfl,_,rfl⟩
theorem zai (X i j k:Nat) (hX:X<2 ^ 32) (hi:1<=i/\i<32) (hj:1<=j/\j<32) (hk:k<32) (w:World):Calls Tryz.prog 141 #[.int .u32 (X:Int),.int .i64 (i:Int),.int .i64 (j:Int),.int .i64 (k:Int)] w fun e w'=>e=.returned (.int .u32 ((z19 i j k X:Nat):Int))/\∃ m,w'=w.drewN m:=by
 refine zeN X i j k ((X / 2 ^ k:Nat):Int) ((ROTR i X ^^^ ROTR j X:Nat):Int) _ (fun n=>((ROTR n.toNat X:Nat):Int)) w (by omega) (by omega) (by omega) ?_ ?_ ?_ ?_
 ·simp only [Int.toNat_natCast]
  exact z3W (z0E (by omega) hX) (z0E (by omega) hX)
 ·exact z3W (Nat.xor_lt_two_pow (z0E (by omega) hX) (z0E (by omega) hX)) (Nat.lt_of_le_of_lt (Nat.div_le_self _ _) hX)
 ·rw [Int.toNat_natCast,show min k 32=k by omega,z1K]
 ·intro n hn w
  obtain ⟨N,rfl⟩:∃ N:Nat,n=(N:Int):=⟨n.toNat,by omega⟩
  exact z2v X N hX (by omega) (by omega) w
theorem zgu (b o n c:Nat) (v0 v1 v2 v3 x0 x1 x2 y1 y2 r:Int) (w:World) (hn:4<=n) (c0:w.cell? ⟨b,o,none⟩=some (.int .u8 v0)) (c1:w.cell? ⟨b,o+1,none⟩=some (.int .u8 v1)) (c2:w.cell? ⟨b,o+2,none⟩=some (.int .u8 v2)) (c3:w.cell? ⟨b,o+3,none⟩=some (.int .u8 v3))
  (e0:v0 % 4294967296*16777216 % 4294967296=x0) (e1:v1 % 4294967296*65536 % 4294967296=x1) (e2:v2 % 4294967296*256 % 4294967296=x2) (f1:bits .or .u32 x0 x1=y1) (f2:bits .or .u32 y1 x2=y2) (f3:bits .or .u32 y2 (v3 % 4294967296)=r):
  Calls Tryz.prog 140 #[.slice (some ⟨b,o,none⟩) n c] w fun e w'=>e=.returned (.int .u32 r)/\∃ m,w'=w.drewN m:=by
 have h0:(0:Int)<(n:Int):=by omega
 have h1:(1:Int)<(n:Int):=by omega
 have h2:(2:Int)<(n:Int):=by omega
 have h3:(3:Int)<(n:Int):=by omega
 clear hn;go_enter Tryz.func140,Tryz.ntmps140;go_wp2;go_quiet (fail)
 go_wp2;go_ret;exact ⟨rfl,_,rfl⟩
theorem zd6 {a b k:Nat} (ha:a % 2 ^ k=0) (hb:b<2 ^ k) (h1:a<2 ^ 32) (h2:b<2 ^ 32):bits .or .u32 (a:Int) (b:Int)=((a+b:Nat):Int):=by
 rw [or32 h1 h2,nat_join k a b ha hb]
theorem zcc (b o n c:Nat) (s:Nat->Nat) (h:∀ i,s i<256) (i:Nat) (w:World) (hn:4<=n) (hc:∀ j,j<4->w.cell? ⟨b,o+j,none⟩=some (.int .u8 (s (i+j):Int))):
  Calls Tryz.prog 140 #[.slice (some ⟨b,o,none⟩) n c] w fun e w'=>e=.returned (.int .u32 ((z0a s i:Nat):Int))/\∃ m,w'=w.drewN m:=by
 have h0:=h i;have h1:=h (i+1);have h2:=h (i+2);have h3:=h (i+3);have w3:((s (i+3):Nat):Int) % 4294967296=((s (i+3):Nat):Int):=by omega
 refine zgu b o n c (s i:Nat) (s (i+1):Nat) (s (i+2):Nat) (s (i+3):Nat) ((s i*16777216:Nat):Int) ((s (i+1)*65536:Nat):Int) ((s (i+2)*256:Nat):Int) _ _ _ w hn (hc 0 (by omega)) (hc 1 (by omega)) (hc 2 (by omega)) (hc 3 (by omega)) ?_ ?_ ?_ (zd6 (k:=24) ?_ ?_ ?_ ?_) (zd6 (k:=16) ?_ ?_ ?_ ?_) (by rw [w3];exact zd6 (k:=8) (by omega) (by omega) (by omega) (by omega));all_goals omega
end Go.Proofs.YtdggkbpabjgdfaaGreatDoor.HX
