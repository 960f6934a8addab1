/- Texts of ManyVerifies, one behind the other: ProofCells, VerifyMap, VerifyRegions, HashPlain, HashWordCalls. -/
import Derived.Great.BuildSlice
import Derived.ChangeKeysEq
import Derived.Deep.RegionHeld3
import Derived.Deep.MidRow
import Derived.Deep.CutRange
import Derived.WalkKit
import Derived.WalkLawsBesides
import Derived.OpenShut
import Derived.Laws.BitsAllLaws
import Derived.Test.YtlicfinmibbpdaaGreatDoorProg
import Derived.Test.YtlicfinmibbpdaaGreatDoorManyVerifiesP5
namespace Go.Proofs.YtlicfinmibbpdaaGreatDoor
open Go.RowKit
set_option maxRecDepth 100000
theorem z5b {w w':World} {B:Nat} {t:TypeId} {s:Nat} {v:Value} {n:Nat} {xs:List Value} (h:w.ownsRow B t s v n xs) (hk:∀ k,v.ownBlock=some k→w'.heap[k]?=w.heap[k]?):w'.ownsRow B t s v n xs:=by
  refine ⟨h.1,?_⟩
  rcases h.2 with h | ⟨g,cap,cur,rfl,hb,hg,r⟩
  · exact .inl h
  · exact .inr ⟨g,cap,cur,rfl,hb,by rw [hk g rfl];exact hg,r⟩
def ZND:List Int:=List.replicate 32 0
abbrev ZARR:Array Value:=#[.int .u8 0,.int .u8 0,.int .u8 0,.int .u8 0,.int .u8 0,.int .u8 0,.int .u8 0,.int .u8 0,.int .u8 0,.int .u8 0,.int .u8 0,.int .u8 0,.int .u8 0,.int .u8 0,.int .u8 0,.int .u8 0,.int .u8 0,.int .u8 0,.int .u8 0,.int .u8 0,.int .u8 0,.int .u8 0,.int .u8 0,.int .u8 0,.int .u8 0,.int .u8 0,.int .u8 0,.int .u8 0,.int .u8 0,.int .u8 0,.int .u8 0,.int .u8 0]
theorem z0Z:(z00 ZND).toArray=ZARR:=rfl
theorem z16:(Tryz.prog.info? 38).map (fun i=>(i.zero,i.size,i.bytes))=some (some (.agg ZARR),32,32):=by kernel_rfl
theorem z3D {ops:Array Oper} {rest:List Oper} {o:Oper} {a:Act} {Q:Exit→Act→World→Prop} (w:World) (hgd:o.guard=none) (s x:Operand)
    (ho:o.op=.call {callee:=.builtin .append,args:=#[s,x],argTypes:=#[22,22]})
    (base:Nat) (v:Value) (n:Nat) (xs:List Value) (hs:a.eval s=v) (hown:w.ownsRow base 38 32 v n xs)
    (b c:Nat) (y:List Int) (hl:y.length=32) (hx:a.eval x=.slice (some ⟨b,0,none⟩) 1 c) (hc:Has w b (z00 y).toArray 38)
    (hb:n≤1000) (hbase:base≤w.heap.size)
    (h:∀ g cap w',w'.ownsRow base 38 32 (.slice (some ⟨g,0,none⟩) (n+1) cap) (n+1) (xs ++ z00 y)→w.grownBy w' v.ownBlock→(v.ownBlock=some g∨g=w.heap.size)→g<w'.heap.size→wpList Tryz.prog ops Q rest (a.put o.dst (.slice (some ⟨g,0,none⟩) (n+1) cap)) w'):wpList Tryz.prog ops Q (o :: rest) a w:=by
  obtain ⟨i,hi,hz,hs1,hby⟩:=info_parts z16
  refine wpList_append_lies w hgd s x 22 ho base 38 i (.agg ZARR) 32 32 Tryz.underlying22 hi hz hs1 hby rfl (by decide) v n xs hs hown ⟨b,0,none⟩ 1 c (z00 y) hx (by rw [z00,List.length_map,hl]) ?_ (z0K y) (by decide) (by simp only [maxLen];omega) (by omega) hbase w.heap.size rfl h
  intro j u hj
  rw [z0D,Nat.zero_add,hc.cell,List.getElem?_toArray]
  exact hj
theorem z1h {ops:Array Oper} {rest:List Oper} {o:Oper} {a:Act} {Q:Exit→Act→World→Prop} (w:World) (hg:o.guard=none) (t e:TypeId) (x:Operand) (ho:o.op=.buildSlice t 1 #[(0,x)]) (C:Array Value) (hx:a.eval x=.agg C) (n:Nat) (z:Value) (by':Nat)
    (hu:Tryz.prog.underlying t=some (.slice e)) (hi:(Tryz.prog.info? e).map (fun i=>(i.zero,i.size,i.bytes))=some (some z,n,by')) (hC:C.size=n) (hz:z.cells.size=n) (hn:0<n) (hs:n≤1000)
    (h:wpList Tryz.prog ops Q rest (a.put o.dst (.slice (some ⟨w.heap.size,0,none⟩) 1 1)) (w.alloc (.cells C e))):wpList Tryz.prog ops Q (o :: rest) a w:=by
  obtain ⟨i,hie,hz',hs1,_⟩:=info_parts hi
  refine wpList_buildSlice hg t e 1 _ ho C i z hu hie hz' (by rw [hs1];omega) (by rw [hs1];omega) ?_ h
  have:=Great.fill_whole (s:=n) hn [.agg C] ((Array.range (1*i.size)).map (z.cells[· % z.cells.size]!)) (fun v hv=>by simp at hv;subst hv;exact hC) (by simp [hs1])
  simp [Value.cells] at this
  rw [hs1]
  simp [hx]
  rw [hs1] at this
  exact this
theorem z4J (d:Nat) (h g:List Int) (hh:h.length=32) (hg:g.length=32) (w:World):∀ is:List Nat,(∀ i∈is,i<32)→(Op.eqItems (d+1) 5 1 (z00 h).toArray (z00 g).toArray is).run Tryz.prog w=.ok (is.all fun i=>h.getD i 0 == g.getD i 0) w
  | [],_=>by simp [Op.eqItems]
  | i :: is,hi=>by
    have hp:Tryz.prog.plainKey 5=true:=by kernel_rfl
    have hi32:i<32:=hi i (by simp)
    have h1:=run_part_plain (P:=Tryz.prog) w hp (show (z00 h).toArray[i]?=some (.int .u8 (h.getD i 0)) by rw [List.getElem?_toArray,z0p h i (by omega)])
    have h2:=run_part_plain (P:=Tryz.prog) w hp (show (z00 g).toArray[i]?=some (.int .u8 (g.getD i 0)) by rw [List.getElem?_toArray,z0p g i (by omega)])
    have h3:=run_equalIn_int (P:=Tryz.prog) w d 5 .u8 .u8 (h.getD i 0) (g.getD i 0) Tryz.underlying5
    have ih:=z4J d h g hh hg w is (fun j hj=>hi j (by simp [hj]))
    rw [Op.eqItems,Nat.mul_one]
    simp only [Sem.run_bind,h1,h2,h3,Result.andThen_ok]
    by_cases e:h.getD i 0=g.getD i 0
    · have e2:(h.getD i 0 == g.getD i 0)=true:=by simpa using e
      rw [List.all_cons,e2,Bool.true_and,if_neg (by simp)]
      exact ih
    · have e2:(h.getD i 0 == g.getD i 0)=false:=by simpa using e
      rw [List.all_cons,e2]
      simp
theorem z8h (h g:List Int) (hh:h.length=32) (hg:g.length=32) (w:World):(Op.equalIn 10000 38 (.agg (z00 h).toArray) (.agg (z00 g).toArray)).run Tryz.prog w=.ok ((List.range 32).all fun i=>h.getD i 0 == g.getD i 0) w:=by
  obtain ⟨i8,hi,_⟩:=Option.map_eq_some_iff.1 z0J
  rw [run_equalIn_array (P:=Tryz.prog) w 9999 (z00 h).toArray (z00 g).toArray Tryz.underlying38 hi]
  have hc:Tryz.prog.cellsOf 5=1:=by kernel_rfl
  rw [hc]
  exact z4J 9998 h g hh hg w _ (fun i hi=>by simpa using hi)
theorem zbe {h g:List Int} (hh:h.length=32) (hg:g.length=32):((List.range 32).all fun i=>h.getD i 0 == g.getD i 0)=decide (h=g):=by
  by_cases e:h=g
  · subst e
    simp
  · rw [decide_eq_false e,Bool.eq_false_iff]
    intro hx
    rw [List.all_eq_true] at hx
    apply e
    apply List.ext_getElem (by omega)
    intro i h1 h2
    have:=hx i (by simp;omega)
    simpa [List.getD,h1,h2] using this
theorem z46 {h g:List Int} (hh:h.length=32) (hg:g.length=32) (w:World):(Op.equalIn 10000 38 (.agg (z00 h).toArray) (.agg (z00 g).toArray)).run Tryz.prog w=.ok (decide (h=g)) w:=by
  rw [z8h h g hh hg,zbe hh hg]
theorem z9Z {h g:List Int} (hh:h.length=32) (hg:g.length=32) (x y:Operand) (w:World):(do eqGuard .neq 38 x y (.agg (z00 h).toArray) (.agg (z00 g).toArray);binOp .neq 38 (.agg (z00 h).toArray) (.agg (z00 g).toArray):Sem Value).run Tryz.prog w=.ok (.bool (!decide (h=g))) w:=by
  simp only [Sem.run_bind,run_eqGuard_agg (P:=Tryz.prog) w .neq 38 x y _ _ (by kernel_rfl),Result.andThen_ok,run_neq_struct,z46 hh hg]
theorem za0 {h g:List Int} (hh:h.length=32) (hg:g.length=32) (x y:Operand) (w:World):(do eqGuard .eql 38 x y (.agg (z00 h).toArray) (.agg (z00 g).toArray);binOp .eql 38 (.agg (z00 h).toArray) (.agg (z00 g).toArray):Sem Value).run Tryz.prog w=.ok (.bool (decide (h=g))) w:=by
  simp only [Sem.run_bind,run_eqGuard_agg (P:=Tryz.prog) w .eql 38 x y _ _ (by kernel_rfl),Result.andThen_ok,run_eql_struct,z46 hh hg]
end Go.Proofs.YtlicfinmibbpdaaGreatDoor

namespace Go.Proofs.YtlicfinmibbpdaaGreatDoor
open Go.RowKit Go.Maps
set_option maxRecDepth 100000
def RV (v:Value):Option (DataW Value × List MemPlace):=some (.held v,[])
def SMAP (w:World) (b n:Nat) (M:Nat→Nat→List Int):Prop:=∃ D:DataW Value,w.ownsMap Tryz.prog 67 RV b n D∧∀ h k,h<256→k<2 ^ 64→D.atKey (KL h k) (.held (.agg ZARR))=.held (.agg (z00 (M h k)).toArray)
theorem SMAP.lt {w:World} {b n:Nat} {M:Nat→Nat→List Int} (h:SMAP w b n M):b<w.heap.size:=let ⟨_,h1,_⟩:=h;h1.lt
theorem SMAP.at {w w':World} {b n:Nat} {M:Nat→Nat→List Int} (h:SMAP w b n M) (hb:w'.heap[b]?=w.heap[b]?):SMAP w' b n M:=by
  obtain ⟨D,⟨es,clock,h1,r⟩,h2⟩:=h
  exact ⟨D,⟨es,clock,hb.trans h1,r⟩,h2⟩
theorem SMAP.below {w w':World} {b n:Nat} {M:Nat→Nat→List Int} (h:SMAP w b n M) (hb:Below w.heap.size w w'):SMAP w' b n M:=h.at (hb.block b h.lt)
end Go.Proofs.YtlicfinmibbpdaaGreatDoor

namespace Go.Proofs.YtlicfinmibbpdaaGreatDoor
open Go.RowKit
set_option maxRecDepth 100000
theorem z8i {w:World} {g:Nat} {x y:List Int} (h:Has w g (z00 x).toArray 38) (hx:x.length=32) (hy:y.length=32):(Instr.storeAt 38 (.pointer (some ⟨g,0,none⟩)) (.agg (z00 y).toArray)).run Tryz.prog w=.ok () (w.setRow g (z00 y).toArray):=by
  simp only [Instr.storeAt,Instr.sureAddr,Sem.run_bind,Sem.run_pure,Result.andThen]
  exact run_storeVar_row w g 38 38 (z00 x).toArray (z00 y).toArray h (z05 hy) (by simp [z00,hx,hy]) (z0l y)
def z1U:Array Oper:=#[⟨some 25,.move (.tmp 0),3,"grow.go:30",#[],none⟩,⟨some 26,.move (.tmp 1),22,"grow.go:30",#[],none⟩,⟨some 27,.move (.tmp 7),3,"grow.go:30",#[],none⟩,⟨some 28,.indexAddr 22 (.tmp 26) (.tmp 27),0,"grow.go:30",#[⟨1,.data⟩,⟨2,.data⟩],none⟩,⟨some 29,.load 38 (.tmp 28),38,"grow.go:30",#[⟨3,.data⟩],none⟩,⟨some 30,.load 38 (.tmp 6),38,"grow.go:30",#[],none⟩,⟨some 31,.call {callee:=.value (.func 114),args:=#[.tmp 25,.tmp 29,.tmp 30],argTypes:=#[3,38,38]},38,"grow.go:30",#[⟨0,.data⟩,⟨4,.data⟩,⟨5,.data⟩],none⟩,⟨none,.store 38 (.tmp 6) (.tmp 31),0,"grow.go:30",#[⟨6,.data⟩,⟨6,.chain⟩,⟨0,.phase⟩,⟨1,.phase⟩,⟨2,.phase⟩,⟨3,.phase⟩,⟨4,.phase⟩,⟨5,.phase⟩,⟨6,.phase⟩],none⟩]
set_option maxHeartbeats 2000000 in
theorem z6N {Q:Exit→Act→World→Prop} (u2 u3 u4 u5 u8 u9 u10 u11 u12 u13 u14 u15 u16 u17 u18 u19 u20 u21 u22 u23 u24 u25 u26 u27 u28 u29 u30 u31 u32:Value) (W:World) (b6 gn o n c i:Nat) (d:Int) (L R Y:List Int) (hL:L.length=32) (hR:R.length=32) (hY:Y.length=32) (b1:(i:Int)<(n:Int)) (hLr:W.drew.rangeAt gn (o+i*32) (z00 L)) (hRr:W.drew.rangeAt b6 0 (z00 R)) (T:World→Prop) (cF:Calls Tryz.prog 114 #[.int .i64 d,.agg (z00 L).toArray,.agg (z00 R).toArray] W.drew fun e w'=>∃ X,e=.returned X∧(X=.agg (z00 Y).toArray∧Has w' b6 (z00 R).toArray 38∧T w')) (hQ:∀ c (a:Act) (t:Tmp) (v:Value) w,Q (.panic c) (a.put (some t) v) w→Q (.panic c) a w)
    (h:∀ (X:Value) (w':World),(X=.agg (z00 Y).toArray∧Has w' b6 (z00 R).toArray 38∧T w')→Q .normal {tmps:=#[.int .i64 d,.slice (some ⟨gn,o,none⟩) n c,u2,u3,u4,u5,.pointer (some ⟨b6,0,none⟩),.int .i64 (i:Int),u8,u9,u10,u11,u12,u13,u14,u15,u16,u17,u18,u19,u20,u21,u22,u23,u24,.int .i64 d,.slice (some ⟨gn,o,none⟩) n c,.int .i64 (i:Int),.pointer (some ⟨gn,o+i*32,none⟩),.agg (z00 L).toArray,.agg (z00 R).toArray,X,u32],defers:=[]} (World.setRow w' b6 (z00 Y).toArray)):(Code.region 8 z1U true).wp Tryz.prog Q {tmps:=#[.int .i64 d,.slice (some ⟨gn,o,none⟩) n c,u2,u3,u4,u5,.pointer (some ⟨b6,0,none⟩),.int .i64 (i:Int),u8,u9,u10,u11,u12,u13,u14,u15,u16,u17,u18,u19,u20,u21,u22,u23,u24,u25,u26,u27,u28,u29,u30,u31,u32],defers:=[]} W:=by
  have kX:∀ (X:Value) (w':World),(X=.agg (z00 Y).toArray∧Has w' b6 (z00 R).toArray 38∧T w')→wpAny Tryz.prog .any z1U Q 1 #[true,true,true,true,true,true,true,false] {tmps:=#[.int .i64 d,.slice (some ⟨gn,o,none⟩) n c,u2,u3,u4,u5,.pointer (some ⟨b6,0,none⟩),.int .i64 (i:Int),u8,u9,u10,u11,u12,u13,u14,u15,u16,u17,u18,u19,u20,u21,u22,u23,u24,.int .i64 d,.slice (some ⟨gn,o,none⟩) n c,.int .i64 (i:Int),.pointer (some ⟨gn,o+i*32,none⟩),.agg (z00 L).toArray,.agg (z00 R).toArray,X,u32],defers:=[]} w':=fun X w' hX=>by
    have z:wpAny Tryz.prog .any z1U Q 0 #[true,true,true,true,true,true,true,true] {tmps:=#[.int .i64 d,.slice (some ⟨gn,o,none⟩) n c,u2,u3,u4,u5,.pointer (some ⟨b6,0,none⟩),.int .i64 (i:Int),u8,u9,u10,u11,u12,u13,u14,u15,u16,u17,u18,u19,u20,u21,u22,u23,u24,.int .i64 d,.slice (some ⟨gn,o,none⟩) n c,.int .i64 (i:Int),.pointer (some ⟨gn,o+i*32,none⟩),.agg (z00 L).toArray,.agg (z00 R).toArray,X,u32],defers:=[]} (World.setRow w' b6 (z00 Y).toArray):=wpAny_done (by kernel_rfl) (h X w' hX) _
    have z7:wpAny Tryz.prog .any z1U Q 1 #[true,true,true,true,true,true,true,false] {tmps:=#[.int .i64 d,.slice (some ⟨gn,o,none⟩) n c,u2,u3,u4,u5,.pointer (some ⟨b6,0,none⟩),.int .i64 (i:Int),u8,u9,u10,u11,u12,u13,u14,u15,u16,u17,u18,u19,u20,u21,u22,u23,u24,.int .i64 d,.slice (some ⟨gn,o,none⟩) n c,.int .i64 (i:Int),.pointer (some ⟨gn,o+i*32,none⟩),.agg (z00 L).toArray,.agg (z00 R).toArray,X,u32],defers:=[]} w':=by
      refine wpAny_ready (rs:=[7]) (by kernel_rfl) (by simp) ?_
      exact AllReady.cons (o:=⟨none,.store 38 (.tmp 6) (.tmp 31),0,"grow.go:30",#[⟨6,.data⟩,⟨6,.chain⟩,⟨0,.phase⟩,⟨1,.phase⟩,⟨2,.phase⟩,⟨3,.phase⟩,⟨4,.phase⟩,⟨5,.phase⟩,⟨6,.phase⟩],none⟩) rfl (fun K hK=>z0S rfl (z7o (by obtain ⟨rfl,hb,_⟩:=hX;exact z8i hb hR hY)) (hK _ _ z)) AllReady.nil
    exact z7
  have s4_5:wpAny Tryz.prog .any z1U Q 2 #[true,true,true,true,true,true,false,false] {tmps:=#[.int .i64 d,.slice (some ⟨gn,o,none⟩) n c,u2,u3,u4,u5,.pointer (some ⟨b6,0,none⟩),.int .i64 (i:Int),u8,u9,u10,u11,u12,u13,u14,u15,u16,u17,u18,u19,u20,u21,u22,u23,u24,.int .i64 d,.slice (some ⟨gn,o,none⟩) n c,.int .i64 (i:Int),.pointer (some ⟨gn,o+i*32,none⟩),.agg (z00 L).toArray,.agg (z00 R).toArray,u31,u32],defers:=[]} W.drew:=by
    refine wpAny_ready (rs:=[6]) (by kernel_rfl) (by simp) ?_
    refine AllReady.cons (o:=⟨some 31,.call {callee:=.value (.func 114),args:=#[.tmp 25,.tmp 29,.tmp 30],argTypes:=#[3,38,38]},38,"grow.go:30",#[⟨0,.data⟩,⟨4,.data⟩,⟨5,.data⟩],none⟩) rfl (fun K hK=>?_) ?_
    · rw [if_pos (by rfl)]
      go_simp
      refine (cF).mono ?_
      rintro e w' ⟨X,rfl,hX⟩
      exact hK _ _ (kX X w' hX)
    exact AllReady.nil
  have s5:wpAny Tryz.prog .any z1U Q 3 #[true,true,true,true,false,true,false,false] {tmps:=#[.int .i64 d,.slice (some ⟨gn,o,none⟩) n c,u2,u3,u4,u5,.pointer (some ⟨b6,0,none⟩),.int .i64 (i:Int),u8,u9,u10,u11,u12,u13,u14,u15,u16,u17,u18,u19,u20,u21,u22,u23,u24,.int .i64 d,.slice (some ⟨gn,o,none⟩) n c,.int .i64 (i:Int),.pointer (some ⟨gn,o+i*32,none⟩),u29,.agg (z00 R).toArray,u31,u32],defers:=[]} W.drew:=by
    refine wpAny_ready (rs:=[4]) (by kernel_rfl) (by simp) ?_
    refine AllReady.cons (o:=⟨some 29,.load 38 (.tmp 28),38,"grow.go:30",#[⟨3,.data⟩],none⟩) rfl (fun K hK=>z3C (v:=.agg (z00 L).toArray) rfl (z24 (run_loadAt_mid (P:=Tryz.prog) _ gn (o+i*32) 38 _ _ hLr Tryz.underlying38 rfl (z0j hL))) (hK _ _ s4_5)) ?_
    exact AllReady.nil
  have s4:wpAny Tryz.prog .any z1U Q 3 #[true,true,true,true,true,false,false,false] {tmps:=#[.int .i64 d,.slice (some ⟨gn,o,none⟩) n c,u2,u3,u4,u5,.pointer (some ⟨b6,0,none⟩),.int .i64 (i:Int),u8,u9,u10,u11,u12,u13,u14,u15,u16,u17,u18,u19,u20,u21,u22,u23,u24,.int .i64 d,.slice (some ⟨gn,o,none⟩) n c,.int .i64 (i:Int),.pointer (some ⟨gn,o+i*32,none⟩),.agg (z00 L).toArray,u30,u31,u32],defers:=[]} W.drew:=by
    refine wpAny_ready (rs:=[5]) (by kernel_rfl) (by simp) ?_
    refine AllReady.cons (o:=⟨some 30,.load 38 (.tmp 6),38,"grow.go:30",#[],none⟩) rfl (fun K hK=>z3C (v:=.agg (z00 R).toArray) rfl (z24 (run_loadAt_mid (P:=Tryz.prog) _ b6 0 38 _ _ hRr Tryz.underlying38 rfl (z0j hR))) (hK _ _ s4_5)) ?_
    exact AllReady.nil
  have s:wpAny Tryz.prog .any z1U Q 4 #[true,true,true,true,false,false,false,false] {tmps:=#[.int .i64 d,.slice (some ⟨gn,o,none⟩) n c,u2,u3,u4,u5,.pointer (some ⟨b6,0,none⟩),.int .i64 (i:Int),u8,u9,u10,u11,u12,u13,u14,u15,u16,u17,u18,u19,u20,u21,u22,u23,u24,.int .i64 d,.slice (some ⟨gn,o,none⟩) n c,.int .i64 (i:Int),.pointer (some ⟨gn,o+i*32,none⟩),u29,u30,u31,u32],defers:=[]} W.drew:=by
    refine wpAny_ready (rs:=[4,5]) (by kernel_rfl) (by simp) ?_
    refine AllReady.cons (o:=⟨some 29,.load 38 (.tmp 28),38,"grow.go:30",#[⟨3,.data⟩],none⟩) rfl (fun K hK=>z3C (v:=.agg (z00 L).toArray) rfl (z24 (run_loadAt_mid (P:=Tryz.prog) _ gn (o+i*32) 38 _ _ hLr Tryz.underlying38 rfl (z0j hL))) (hK _ _ s4)) ?_
    refine AllReady.cons (o:=⟨some 30,.load 38 (.tmp 6),38,"grow.go:30",#[],none⟩) rfl (fun K hK=>z3C (v:=.agg (z00 R).toArray) rfl (z24 (run_loadAt_mid (P:=Tryz.prog) _ b6 0 38 _ _ hRr Tryz.underlying38 rfl (z0j hR))) (hK _ _ s5)) ?_
    exact AllReady.nil
  have t3:wpAny Tryz.prog .any z1U Q 5 #[true,true,true,false,false,false,false,false] {tmps:=#[.int .i64 d,.slice (some ⟨gn,o,none⟩) n c,u2,u3,u4,u5,.pointer (some ⟨b6,0,none⟩),.int .i64 (i:Int),u8,u9,u10,u11,u12,u13,u14,u15,u16,u17,u18,u19,u20,u21,u22,u23,u24,.int .i64 d,.slice (some ⟨gn,o,none⟩) n c,.int .i64 (i:Int),u28,u29,u30,u31,u32],defers:=[]} W.drew:=
    wpAny_take (i:=3) (oi:=⟨some 28,.indexAddr 22 (.tmp 26) (.tmp 27),0,"grow.go:30",#[⟨1,.data⟩,⟨2,.data⟩],none⟩) (v:=.pointer (some ⟨gn,o+i*32,none⟩)) rfl (by kernel_rfl) (by kernel_rfl) (by kernel_rfl) (fun _ _ _ h=>hQ _ _ _ _ _ h) (Or.inl ⟨by rfl,fun W=>by go_simp⟩) s
  have t2:wpAny Tryz.prog .any z1U Q 6 #[true,true,false,false,false,false,false,false] {tmps:=#[.int .i64 d,.slice (some ⟨gn,o,none⟩) n c,u2,u3,u4,u5,.pointer (some ⟨b6,0,none⟩),.int .i64 (i:Int),u8,u9,u10,u11,u12,u13,u14,u15,u16,u17,u18,u19,u20,u21,u22,u23,u24,.int .i64 d,.slice (some ⟨gn,o,none⟩) n c,u27,u28,u29,u30,u31,u32],defers:=[]} W.drew:=
    wpAny_take (i:=2) (oi:=⟨some 27,.move (.tmp 7),3,"grow.go:30",#[],none⟩) (v:=.int .i64 (i:Int)) rfl (by kernel_rfl) (by kernel_rfl) (by kernel_rfl) (fun _ _ _ h=>hQ _ _ _ _ _ h) (Or.inl ⟨by rfl,fun W=>by go_simp⟩) t3
  have t1:wpAny Tryz.prog .any z1U Q 7 #[true,false,false,false,false,false,false,false] {tmps:=#[.int .i64 d,.slice (some ⟨gn,o,none⟩) n c,u2,u3,u4,u5,.pointer (some ⟨b6,0,none⟩),.int .i64 (i:Int),u8,u9,u10,u11,u12,u13,u14,u15,u16,u17,u18,u19,u20,u21,u22,u23,u24,.int .i64 d,u26,u27,u28,u29,u30,u31,u32],defers:=[]} W.drew:=
    wpAny_take (i:=1) (oi:=⟨some 26,.move (.tmp 1),22,"grow.go:30",#[],none⟩) (v:=.slice (some ⟨gn,o,none⟩) n c) rfl (by kernel_rfl) (by kernel_rfl) (by kernel_rfl) (fun _ _ _ h=>hQ _ _ _ _ _ h) (Or.inl ⟨by rfl,fun W=>by go_simp⟩) t2
  have t0:wpAny Tryz.prog .any z1U Q 8 #[false,false,false,false,false,false,false,false] {tmps:=#[.int .i64 d,.slice (some ⟨gn,o,none⟩) n c,u2,u3,u4,u5,.pointer (some ⟨b6,0,none⟩),.int .i64 (i:Int),u8,u9,u10,u11,u12,u13,u14,u15,u16,u17,u18,u19,u20,u21,u22,u23,u24,u25,u26,u27,u28,u29,u30,u31,u32],defers:=[]} W.drew:=
    wpAny_take (i:=0) (oi:=⟨some 25,.move (.tmp 0),3,"grow.go:30",#[],none⟩) (v:=.int .i64 d) rfl (by kernel_rfl) (by kernel_rfl) (by kernel_rfl) (fun _ _ _ h=>hQ _ _ _ _ _ h) (Or.inl ⟨by rfl,fun W=>by go_simp⟩) t1
  refine wp_region_any (by kernel_rfl) ?_
  exact t0
end Go.Proofs.YtlicfinmibbpdaaGreatDoor

namespace Go.Proofs.YtlicfinmibbpdaaGreatDoor.HX
open Go.RowKit
def ROTR (n x:Nat):Nat:=x / 2 ^ n+x % 2 ^ n*2 ^ (32 - n)
theorem z0q {n x:Nat} (hn:n≤32) (hx:x<2 ^ 32):ROTR n x<2 ^ 32:=by
  unfold ROTR
  have h1:(2:Nat) ^ 32=2 ^ n*2 ^ (32 - n):=by rw [← Nat.pow_add];congr 1;omega
  have h2:x / 2 ^ n<2 ^ (32 - n):=by
    apply Nat.div_lt_of_lt_mul
    rw [← h1];exact hx
  have h3:x % 2 ^ n+1≤2 ^ n:=Nat.mod_lt _ (Nat.two_pow_pos n)
  have h4:=Nat.mul_le_mul_right (2 ^ (32 - n)) h3
  rw [Nat.add_mul,Nat.one_mul,← h1] at h4
  omega
theorem zeY {n x:Nat} (hn:n≤32) (hx:x<2 ^ 32):x*2 ^ (32 - n) % 2 ^ 32 ||| x / 2 ^ n=ROTR n x:=by
  have h1:(2:Nat) ^ 32=2 ^ n*2 ^ (32 - n):=by rw [← Nat.pow_add];congr 1;omega
  have h2:x / 2 ^ n<2 ^ (32 - n):=by
    apply Nat.div_lt_of_lt_mul
    rw [← h1];exact hx
  have h3:x*2 ^ (32 - n) % 2 ^ 32=x % 2 ^ n*2 ^ (32 - n):=by
    rw [h1,Nat.mul_mod_mul_right]
  rw [h3,nat_join (32 - n) _ _ (Nat.mul_mod_left _ _) h2]
  unfold ROTR
  omega
def MIX (i j k x:Nat):Nat:=ROTR i x ^^^ ROTR j x ^^^ ROTR k x
def z1d (i j k x:Nat):Nat:=ROTR i x ^^^ ROTR j x ^^^ x / 2 ^ k
def CHO (x y z:Nat):Nat:=(x &&& y) ^^^ ((4294967295 - x) &&& z)
def MAJ (x y z:Nat):Nat:=(x &&& y) ^^^ (x &&& z) ^^^ (y &&& z)
theorem zbf {i j k x:Nat} (hi:i≤32) (hj:j≤32) (hk:k≤32) (hx:x<2 ^ 32):MIX i j k x<2 ^ 32:=Nat.xor_lt_two_pow (Nat.xor_lt_two_pow (z0q hi hx) (z0q hj hx)) (z0q hk hx)
theorem z7p {i j k x:Nat} (hi:i≤32) (hj:j≤32) (hx:x<2 ^ 32):z1d i j k x<2 ^ 32:=Nat.xor_lt_two_pow (Nat.xor_lt_two_pow (z0q hi hx) (z0q hj hx)) (Nat.lt_of_le_of_lt (Nat.div_le_self _ _) hx)
theorem zbg {x y z:Nat} (hx:x<2 ^ 32) (hz:z<2 ^ 32):CHO x y z<2 ^ 32:=Nat.xor_lt_two_pow (Nat.lt_of_le_of_lt Nat.and_le_left hx) (Nat.lt_of_le_of_lt Nat.and_le_right hz)
theorem zbh {x y z:Nat} (hx:x<2 ^ 32) (hy:y<2 ^ 32):MAJ x y z<2 ^ 32:=Nat.xor_lt_two_pow (Nat.xor_lt_two_pow (Nat.lt_of_le_of_lt Nat.and_le_left hx) (Nat.lt_of_le_of_lt Nat.and_le_left hx)) (Nat.lt_of_le_of_lt Nat.and_le_left hy)
def z08 (s:Nat→Nat) (o:Nat):Nat:=s o*16777216+s (o+1)*65536+s (o+2)*256+s (o+3)
theorem z1i {s:Nat→Nat} (o:Nat) (h:∀ i,s i<256):z08 s o<2 ^ 32:=by
  have h0:=h o;have h1:=h (o+1);have h2:=h (o+2);have h3:=h (o+3)
  unfold z08
  omega
def SCHL (b:Nat→Nat):Nat→Nat→Nat
  | 0,t=>if t<16 then z08 b (4*t) else 0
  | k+1,t=>if t=16+k then (z1d 17 19 10 (SCHL b k (14+k))+SCHL b k (9+k)+z1d 7 18 3 (SCHL b k (1+k))+SCHL b k k) % 4294967296 else SCHL b k t
def SCH (b:Nat→Nat):Nat→Nat:=SCHL b 48
theorem z25 {b:Nat→Nat} (h:∀ i,b i<256):∀ k t,SCHL b k t<2 ^ 32
  | 0,t=>by
    unfold SCHL
    split
    · exact z1i _ h
    · decide
  | k+1,t=>by
    unfold SCHL
    split
    · exact Nat.mod_lt _ (by decide)
    · exact z25 h k t
theorem z5s (b:Nat→Nat) (k:Nat):∀ m t,t<16+k→SCHL b (k+m) t=SCHL b k t
  | 0,_,_=>rfl
  | m+1,t,h=>by
    show SCHL b (k+m+1) t=_
    rw [SCHL,if_neg (by omega)]
    exact z5s b k m t h
def KLIST:List Nat:=[1116352408,1899447441,3049323471,3921009573,961987163,1508970993,2453635748,2870763221,3624381080,310598401,607225278,1426881987,1925078388,2162078206,2614888103,3248222580,3835390401,4022224774,264347078,604807628,770255983,1249150122,1555081692,1996064986,2554220882,2821834349,2952996808,3210313671,3336571891,3584528711,113926993,338241895,666307205,773529912,1294757372,1396182291,1695183700,1986661051,2177026350,2456956037,2730485921,2820302411,3259730800,3345764771,3516065817,3600352804,4094571909,275423344,430227734,506948616,659060556,883997877,958139571,1322822218,1537002063,1747873779,1955562222,2024104815,2227730452,2361852424,2428436474,2756734187,3204031479,3329325298]
def KC (t:Nat):Nat:=KLIST.getD t 0
theorem zfp (t:Nat):KC t<2 ^ 32:=by
  by_cases h:t<64
  · have:∀ i,i<64→KC i<2 ^ 32:=by decide
    exact this t h
  · have:KLIST.length=64:=rfl
    unfold KC
    rw [List.getD_eq_getElem?_getD,List.getElem?_eq_none (by omega)]
    decide
structure ST where
  a:Nat
  b:Nat
  c:Nat
  d:Nat
  e:Nat
  f:Nat
  g:Nat
  h:Nat
def T1 (k x:Nat) (s:ST):Nat:=(s.h+MIX 6 11 25 s.e+CHO s.e s.f s.g+k+x) % 4294967296
def T2 (s:ST):Nat:=(MIX 2 13 22 s.a+MAJ s.a s.b s.c) % 4294967296
def RND (k x:Nat) (s:ST):ST:={a:=(T1 k x s+T2 s) % 4294967296,b:=s.a,c:=s.b,d:=s.c,e:=(s.d+T1 k x s) % 4294967296,f:=s.e,g:=s.f,h:=s.g}
def Small (s:ST):Prop:=s.a<2 ^ 32∧s.b<2 ^ 32∧s.c<2 ^ 32∧s.d<2 ^ 32∧s.e<2 ^ 32∧s.f<2 ^ 32∧s.g<2 ^ 32∧s.h<2 ^ 32
theorem Small.rnd {s:ST} (h:Small s) (k x:Nat):Small (RND k x s):=by
  obtain ⟨h1,h2,h3,h4,h5,h6,h7,h8⟩:=h
  exact ⟨Nat.mod_lt _ (by decide),h1,h2,h3,Nat.mod_lt _ (by decide),h5,h6,h7⟩
def RUN (x:Nat→Nat) (s:ST):Nat→ST
  | 0=>s
  | t+1=>RND (KC t) (x t) (RUN x s t)
theorem z47 (x:Nat→Nat) {s:ST} (h:Small s):∀ t,Small (RUN x s t)
  | 0=>h
  | t+1=>(z47 x h t).rnd _ _
def STOF (s:Nat→Nat):ST:={a:=z08 s 0,b:=z08 s 4,c:=z08 s 8,d:=z08 s 12,e:=z08 s 16,f:=z08 s 20,g:=z08 s 24,h:=z08 s 28}
theorem z5t {s:Nat→Nat} (h:∀ i,s i<256):Small (STOF s):=
  ⟨z1i _ h,z1i _ h,z1i _ h,z1i _ h,z1i _ h,z1i _ h,z1i _ h,z1i _ h⟩
def ST.at (s:ST):Nat→Nat
  | 0=>s.a
  | 1=>s.b
  | 2=>s.c
  | 3=>s.d
  | 4=>s.e
  | 5=>s.f
  | 6=>s.g
  | 7=>s.h
  | _=>0
def OUTW (s b:Nat→Nat) (i:Nat):Nat:=(z08 s (4*i)+(RUN (SCH b) (STOF s) 64).at i) % 4294967296
def z0e (x:Nat→Nat) (i:Nat):Nat:=x (i / 4) / 2 ^ (24 - 8*(i % 4)) % 256
def WID (w:Int):Nat:=(min (max w 1) 32).toNat
def z0B (w:Int) (s:Nat→Nat) (i:Nat):Nat:=if i<WID w then s i else 0
def COMP (w:Int) (s b:Nat→Nat):Nat→Nat:=z0B w (z0e (OUTW s b))
theorem z7q (x:Nat→Nat) (i:Nat):z0e x i<256:=Nat.mod_lt _ (by decide)
theorem z6r {w:Int} {s:Nat→Nat} (h:∀ i,s i<256) (i:Nat):z0B w s i<256:=by
  unfold z0B
  split
  · exact h i
  · decide
theorem ze9 (w:Int) (s b:Nat→Nat) (i:Nat):COMP w s b i<256:=z6r (z7q _) i
theorem za1 (w:Int):1≤WID w∧WID w≤32:=by unfold WID;omega
end Go.Proofs.YtlicfinmibbpdaaGreatDoor.HX

namespace Go.Proofs.YtlicfinmibbpdaaGreatDoor.HX
open Go.RowKit
theorem z4v (z:Int):IntKind.u32.wrap z=z % 2 ^ 32:=by rw [IntKind.wrap_u32];rfl
theorem z37 {a b:Nat} (ha:a<2 ^ 32) (hb:b<2 ^ 32):bits .xor .u32 (a:Int) (b:Int)=((a ^^^ b:Nat):Int):=u32_xor_nat a b ha hb
theorem z5u {a b:Nat} (ha:a<2 ^ 32) (hb:b<2 ^ 32):bits .and .u32 (a:Int) (b:Int)=((a &&& b:Nat):Int):=u32_and_nat a b ha hb
theorem or32 {a b:Nat} (ha:a<2 ^ 32) (hb:b<2 ^ 32):bits .or .u32 (a:Int) (b:Int)=((a ||| b:Nat):Int):=u32_or_nat a b ha hb
theorem zcP (x n s a b r:Int) (w:World) (hs:bits .and .u64 (IntKind.u64.wrap n) 31=s) (h0:0≤s) (h1:0≤IntKind.u64.wrap (32 - s)) (ha:IntKind.u32.wrap (x*2 ^ min s.toNat 32)=a) (hb:x / 2 ^ min (IntKind.u64.wrap (32 - s)).toNat 32=b) (hr:bits .or .u32 a b=r):
    Calls Tryz.prog 191 #[.int .u32 x,.int .i64 n] w fun e w'=>e=.returned (.int .u32 r)∧w=w':=by
  go_enter Tryz.func191,Tryz.ntmps191
  go_wp2
  go_ret
  exact ⟨rfl,rfl⟩
theorem zfq (n:Nat) (h1:1≤n) (h2:n<32):bits .and .u64 (IntKind.u64.wrap (wrap64 (-(n:Int)))) 31=((32 - n:Nat):Int):=by
  have e:IntKind.u64.wrap (wrap64 (-(n:Int)))=((18446744073709551616 - n:Nat):Int):=by
    rw [z09]
    unfold wrap64
    omega
  have f:(31:Int)=((31:Nat):Int):=rfl
  rw [e,f,z3W (by omega) (by decide)]
  congr 1
  have:(31:Nat)=2 ^ 5 - 1:=rfl
  rw [this,Nat.and_two_pow_sub_one_eq_mod]
  omega
theorem zea (X n:Nat) (hX:X<2 ^ 32) (h1:1≤n) (h2:n<32) (w:World):Calls Tryz.prog 191 #[.int .u32 (X:Int),.int .i64 (wrap64 (-(n:Int)))] w fun e w'=>e=.returned (.int .u32 ((ROTR n X:Nat):Int))∧w=w':=by
  have e:IntKind.u64.wrap (32 - ((32 - n:Nat):Int))=(n:Int):=by rw [z09];omega
  refine zcP X _ ((32 - n:Nat):Int) ((X*2 ^ (32 - n) % 2 ^ 32:Nat):Int) ((X / 2 ^ n:Nat):Int) _ w (zfq n h1 h2) (by omega) (by rw [e];omega) ?_ ?_ ?_
  · rw [Int.toNat_natCast,show min (32 - n) 32=32 - n by omega,z4v]
    simp
  · rw [e,Int.toNat_natCast,show min n 32=n by omega,z2R]
  · rw [or32 (Nat.mod_lt _ (by decide)) (Nat.lt_of_le_of_lt (Nat.div_le_self _ _) hX),zeY (by omega) hX]
theorem z41 (x n r:Int) (w:World) (c:∀ w,Calls Tryz.prog 191 #[.int .u32 x,.int .i64 (wrap64 (-n))] w fun e w'=>e=.returned (.int .u32 r)∧w=w'):
    Calls Tryz.prog 185 #[.int .u32 x,.int .i64 n] w fun e w'=>e=.returned (.int .u32 r)∧w=w':=by
  go_enter Tryz.func185,Tryz.ntmps185
  go_wp2_with fail
  refine (c _).mono ?_
  rintro e w' ⟨rfl,rfl⟩
  go_wp2
  go_ret
  exact ⟨rfl,rfl⟩
theorem z2V (X n:Nat) (hX:X<2 ^ 32) (h1:1≤n) (h2:n<32) (w:World):Calls Tryz.prog 185 #[.int .u32 (X:Int),.int .i64 (n:Int)] w fun e w'=>e=.returned (.int .u32 ((ROTR n X:Nat):Int))∧w=w':=
  z41 X n _ w (fun w=>zea X n hX h1 h2 w)
theorem zeb (x i j k a b c p r:Int) (w:World) (e1:bits .xor .u32 a b=p) (e2:bits .xor .u32 p c=r)
    (ca:∀ w,Calls Tryz.prog 185 #[.int .u32 x,.int .i64 i] w fun e w'=>e=.returned (.int .u32 a)∧w=w')
    (cb:∀ w,Calls Tryz.prog 185 #[.int .u32 x,.int .i64 j] w fun e w'=>e=.returned (.int .u32 b)∧w=w')
    (cc:∀ w,Calls Tryz.prog 185 #[.int .u32 x,.int .i64 k] w fun e w'=>e=.returned (.int .u32 c)∧w=w'):
    Calls Tryz.prog 168 #[.int .u32 x,.int .i64 i,.int .i64 j,.int .i64 k] w fun e w'=>e=.returned (.int .u32 r)∧w=w':=by
  go_enter Tryz.func168,Tryz.ntmps168
  go_wp2_with fail
  refine (ca _).mono ?_
  rintro e w' ⟨rfl,rfl⟩
  clear ca
  go_wp2_with fail
  refine (cb _).mono ?_
  rintro e w' ⟨rfl,rfl⟩
  clear cb
  go_wp2_with fail
  refine (cc _).mono ?_
  rintro e w' ⟨rfl,rfl⟩
  clear cc
  go_wp2
  go_ret
  exact ⟨rfl,rfl⟩
theorem zbi (X i j k:Nat) (hX:X<2 ^ 32) (hi:1≤i∧i<32) (hj:1≤j∧j<32) (hk:1≤k∧k<32) (w:World):Calls Tryz.prog 168 #[.int .u32 (X:Int),.int .i64 (i:Int),.int .i64 (j:Int),.int .i64 (k:Int)] w fun e w'=>e=.returned (.int .u32 ((MIX i j k X:Nat):Int))∧w=w':=
  zeb X i j k _ _ _ _ _ w (z37 (z0q (by omega) hX) (z0q (by omega) hX)) (z37 (Nat.xor_lt_two_pow (z0q (by omega) hX) (z0q (by omega) hX)) (z0q (by omega) hX)) (fun w=>z2V X i hX hi.1 hi.2 w) (fun w=>z2V X j hX hj.1 hj.2 w) (fun w=>z2V X k hX hk.1 hk.2 w)
theorem zcQ {X:Nat} (hX:X<2 ^ 32):4294967295 ^^^ X=4294967295 - X:=by
  apply Nat.eq_of_testBit_eq
  intro i
  have e:(4294967295:Nat)=2 ^ 32 - 1:=rfl
  have e2:4294967295 - X=2 ^ 32 - (X+1):=by omega
  rw [e2,Nat.testBit_two_pow_sub_succ hX,Nat.testBit_xor,e,Nat.testBit_two_pow_sub_one]
  by_cases h:i<32
  · simp [h]
  · have:X.testBit i=false:=Nat.testBit_lt_two_pow (Nat.lt_of_lt_of_le hX (Nat.pow_le_pow_right (by decide) (by omega)))
    simp [h,this]
theorem zfr {X:Nat} (hX:X<2 ^ 32):bits .xor .u32 IntKind.u32.max (X:Int)=((4294967295 - X:Nat):Int):=by
  rw [← zcQ hX]
  exact z37 (a:=4294967295) (by decide) hX
theorem za2 (x y z p q s r:Int) (w:World) (e1:bits .and .u32 x y=p) (e2:bits .xor .u32 IntKind.u32.max x=q) (e3:bits .and .u32 q z=s) (e4:bits .xor .u32 p s=r):
    Calls Tryz.prog 169 #[.int .u32 x,.int .u32 y,.int .u32 z] w fun e w'=>e=.returned (.int .u32 r)∧w=w':=by
  go_enter Tryz.func169,Tryz.ntmps169
  go_wp2
  go_ret
  exact ⟨rfl,rfl⟩
theorem zbj (X Y Z:Nat) (hX:X<2 ^ 32) (hY:Y<2 ^ 32) (hZ:Z<2 ^ 32) (w:World):Calls Tryz.prog 169 #[.int .u32 (X:Int),.int .u32 (Y:Int),.int .u32 (Z:Int)] w fun e w'=>e=.returned (.int .u32 ((CHO X Y Z:Nat):Int))∧w=w':=
  za2 X Y Z _ ((4294967295 - X:Nat):Int) _ _ w (z5u hX hY) (zfr hX) (z5u (by omega) hZ) (z37 (Nat.lt_of_le_of_lt Nat.and_le_left hX) (Nat.lt_of_le_of_lt Nat.and_le_right hZ))
theorem z7r (x y z p q s t r:Int) (w:World) (e1:bits .and .u32 x y=p) (e2:bits .and .u32 x z=q) (e3:bits .xor .u32 p q=s) (e4:bits .and .u32 y z=t) (e5:bits .xor .u32 s t=r):
    Calls Tryz.prog 170 #[.int .u32 x,.int .u32 y,.int .u32 z] w fun e w'=>e=.returned (.int .u32 r)∧w=w':=by
  go_enter Tryz.func170,Tryz.ntmps170
  go_wp2
  go_ret
  exact ⟨rfl,rfl⟩
theorem z8j (X Y Z:Nat) (hX:X<2 ^ 32) (hY:Y<2 ^ 32) (hZ:Z<2 ^ 32) (w:World):Calls Tryz.prog 170 #[.int .u32 (X:Int),.int .u32 (Y:Int),.int .u32 (Z:Int)] w fun e w'=>e=.returned (.int .u32 ((MAJ X Y Z:Nat):Int))∧w=w':=
  z7r X Y Z _ _ _ _ _ w (z5u hX hY) (z5u hX hZ) (z37 (Nat.lt_of_le_of_lt Nat.and_le_left hX) (Nat.lt_of_le_of_lt Nat.and_le_left hX)) (z5u hY hZ) (z37 (Nat.xor_lt_two_pow (Nat.lt_of_le_of_lt Nat.and_le_left hX) (Nat.lt_of_le_of_lt Nat.and_le_left hX)) (Nat.lt_of_le_of_lt Nat.and_le_left hY))
theorem z0C {P:Program} {f:FuncId} {args:Array Value} {w:World} {n:Nat} {v:Value}
    (h:Calls P f args (w.drewN n) fun e w'=>e=.returned v∧w.drewN n=w'):Calls P f args (w.drewN n) fun e w''=>e=.returned v∧∃ m,w''=w.drewN m:=
  h.mono fun _ _ ⟨he,hm⟩=>⟨he,n,hm.symm⟩
theorem zbk (x i j k c p r:Int) (R:Int→Int) (w:World) (hi:1≤i∧i<32) (hj:1≤j∧j<32) (hk:0≤k) (e1:bits .xor .u32 (R i) (R j)=p) (e2:bits .xor .u32 p c=r) (e3:x / 2 ^ min k.toNat 32=c)
    (ca:∀ n:Int,1≤n∧n<32→∀ w,Calls Tryz.prog 185 #[.int .u32 x,.int .i64 n] w fun e w'=>e=.returned (.int .u32 (R n))∧w=w'):
    Calls Tryz.prog 184 #[.int .u32 x,.int .i64 i,.int .i64 j,.int .i64 k] w fun e w'=>e=.returned (.int .u32 r)∧∃ m,w'=w.drewN m:=by
  go_enter Tryz.func184,Tryz.ntmps184
  go_wp2
  go_quiet ((go_at_call 185;exact z0C (ca _ (by assumption) _)))
  go_wp2
  go_ret
  exact ⟨rfl,_,rfl⟩
theorem z7s (X i j k:Nat) (hX:X<2 ^ 32) (hi:1≤i∧i<32) (hj:1≤j∧j<32) (hk:k<32) (w:World):Calls Tryz.prog 184 #[.int .u32 (X:Int),.int .i64 (i:Int),.int .i64 (j:Int),.int .i64 (k:Int)] w fun e w'=>e=.returned (.int .u32 ((z1d i j k X:Nat):Int))∧∃ m,w'=w.drewN m:=by
  refine zbk X i j k ((X / 2 ^ k:Nat):Int) ((ROTR i X ^^^ ROTR j X:Nat):Int) _ (fun n=>((ROTR n.toNat X:Nat):Int)) w (by omega) (by omega) (by omega) ?_ ?_ ?_ ?_
  · simp only [Int.toNat_natCast]
    exact z37 (z0q (by omega) hX) (z0q (by omega) hX)
  · exact z37 (Nat.xor_lt_two_pow (z0q (by omega) hX) (z0q (by omega) hX)) (Nat.lt_of_le_of_lt (Nat.div_le_self _ _) hX)
  · rw [Int.toNat_natCast,show min k 32=k by omega,z2R]
  · intro n hn w
    obtain ⟨N,rfl⟩:∃ N:Nat,n=(N:Int):=⟨n.toNat,by omega⟩
    exact z2V X N hX (by omega) (by omega) w
theorem zcR (b o n c:Nat) (v0 v1 v2 v3 x0 x1 x2 y1 y2 r:Int) (w:World) (hn:4≤n) (c0:w.cell? ⟨b,o,none⟩=some (.int .u8 v0)) (c1:w.cell? ⟨b,o+1,none⟩=some (.int .u8 v1)) (c2:w.cell? ⟨b,o+2,none⟩=some (.int .u8 v2)) (c3:w.cell? ⟨b,o+3,none⟩=some (.int .u8 v3))
    (e0:v0 % 4294967296*16777216 % 4294967296=x0) (e1:v1 % 4294967296*65536 % 4294967296=x1) (e2:v2 % 4294967296*256 % 4294967296=x2) (f1:bits .or .u32 x0 x1=y1) (f2:bits .or .u32 y1 x2=y2) (f3:bits .or .u32 y2 (v3 % 4294967296)=r):
    Calls Tryz.prog 183 #[.slice (some ⟨b,o,none⟩) n c] w fun e w'=>e=.returned (.int .u32 r)∧∃ m,w'=w.drewN m:=by
  have h0:(0:Int)<(n:Int):=by omega
  have h1:(1:Int)<(n:Int):=by omega
  have h2:(2:Int)<(n:Int):=by omega
  have h3:(3:Int)<(n:Int):=by omega
  clear hn
  go_enter Tryz.func183,Tryz.ntmps183
  go_wp2
  go_quiet (fail)
  go_wp2
  go_ret
  exact ⟨rfl,_,rfl⟩
theorem za3 {a b k:Nat} (ha:a % 2 ^ k=0) (hb:b<2 ^ k) (h1:a<2 ^ 32) (h2:b<2 ^ 32):bits .or .u32 (a:Int) (b:Int)=((a+b:Nat):Int):=by
  rw [or32 h1 h2,nat_join k a b ha hb]
theorem z9l (b o n c:Nat) (s:Nat→Nat) (h:∀ i,s i<256) (i:Nat) (w:World) (hn:4≤n) (hc:∀ j,j<4→w.cell? ⟨b,o+j,none⟩=some (.int .u8 (s (i+j):Int))):
    Calls Tryz.prog 183 #[.slice (some ⟨b,o,none⟩) n c] w fun e w'=>e=.returned (.int .u32 ((z08 s i:Nat):Int))∧∃ m,w'=w.drewN m:=by
  have h0:=h i;have h1:=h (i+1);have h2:=h (i+2);have h3:=h (i+3)
  have w3:((s (i+3):Nat):Int) % 4294967296=((s (i+3):Nat):Int):=by omega
  refine zcR b o n c (s i:Nat) (s (i+1):Nat) (s (i+2):Nat) (s (i+3):Nat) ((s i*16777216:Nat):Int) ((s (i+1)*65536:Nat):Int) ((s (i+2)*256:Nat):Int) _ _ _ w hn (hc 0 (by omega)) (hc 1 (by omega)) (hc 2 (by omega)) (hc 3 (by omega)) ?_ ?_ ?_ (za3 (k:=24) ?_ ?_ ?_ ?_) (za3 (k:=16) ?_ ?_ ?_ ?_) (by rw [w3];exact za3 (k:=8) (by omega) (by omega) (by omega) (by omega))
  all_goals omega
end Go.Proofs.YtlicfinmibbpdaaGreatDoor.HX
