/- Texts of SpanMakes, one behind the other: ProofBytes, ProofEncode, CutRefSpan, ProofRefPlaces, ProofLists, RegionSteps, ProofCells, PosForestMap, VerifyMap, VerifyRegions, VerifyHash, ProofSame, ProofTexts, ProofRow, ProofFlats, VerifyHanded, VerifyPeaks, VerifyClimb, VerifyBag, VerifyCount. -/
import Derived.Deep.MidRow
import Derived.Test.YtnmalbngdhjhjaaGreatDoorProg
import Derived.WalkKit
import Derived.WalkLawsBesides
import Derived.Deep.RegionHeld3
import Derived.Deep.CutRange
import Derived.Great.BuildSlice
import Derived.ChangeKeysEq
import Derived.Maps.OwnSet
import Derived.DeepKeys4
import Derived.Test.YtnmalbngdhjhjaaGreatDoorSpanMakesP22
namespace Go.Proofs.YtnmalbngdhjhjaaGreatDoor
open Go.RowKit
set_option maxRecDepth 100000
def Flat (w:World) (a:Option Addr) (n:Nat) (l:List Int):Prop:=
  l.length=32*n∧(0<n→∃ b o,a=some ⟨b,o,none⟩∧b<w.heap.size∧∀ j,j<32*n→w.cell? ⟨b,o+j,none⟩=some (.int .u8 (l.getD j 0)))∧∀ x∈l,0≤x∧x≤255
theorem Flat.below {w w':World} {a:Option Addr} {n:Nat} {l:List Int} (h:Flat w a n l) (hb:Below w.heap.size w w'):Flat w' a n l:=
  ⟨h.1,fun hn=>by
    obtain ⟨b,o,e,hl,hc⟩:=h.2.1 hn
    exact ⟨b,o,e,Nat.lt_of_lt_of_le hl hb.size,fun i hi=>(hb.cell (by exact hl)).trans (hc i hi)⟩,h.2.2⟩
def HSH (l:List Int) (i:Nat):List Int:=(l.drop (32*i)).take 32
theorem z1s {l:List Int} {n i:Nat} (hl:l.length=32*n) (hi:i<n):(HSH l i).length=32:=by
  unfold HSH
  rw [List.length_take,List.length_drop]
  omega
theorem zcQ {l:List Int} {i j:Nat} (hj:j<32):(HSH l i).getD j 0=l.getD (32*i+j) 0:=by
  unfold HSH
  rw [List.getD_eq_getElem?_getD,List.getElem?_take,if_pos hj,List.getElem?_drop,List.getD_eq_getElem?_getD]
theorem zfK {l:List Int} {i:Nat} {x:Int} (h:x∈HSH l i):x∈l:=List.mem_of_mem_drop (List.mem_of_mem_take h)
theorem z5w (l:List Int) (i:Nat):l.take (32*(i+1))=l.take (32*i) ++ HSH l i:=by
  unfold HSH
  rw [show 32*(i+1)=32*i+32 by omega,List.take_add]
theorem z58:(Tryz.prog.info? 35).map (·.size)=some 32:=by kernel_rfl
theorem z0u {h:List Int} (hl:h.length=32):(Tryz.prog.info? 35).map (·.size)=some (z00 h).length:=by
  rw [z58,show (z00 h).length=32 by simp [z00,hl]]
theorem z0V {h:List Int} (hl:h.length=32):(Tryz.prog.info? 35).map (·.size)=some (z00 h).toArray.size:=by
  rw [z58,show (z00 h).toArray.size=32 by simp [z00,hl]]
theorem z1G (h:List Int):(z00 h).toArray.all (·.oneCell')=true:=by
  rw [Array.all_eq_true_iff_forall_mem]
  intro v hv
  exact z1l h v (by simpa using hv)
theorem Flat.at {w:World} {b o n:Nat} {l:List Int} {i:Nat} (h:Flat w (some ⟨b,o,none⟩) n l) (hi:i<n):w.rangeAt b (o+i*32) (z00 (HSH l i)):=by
  intro j v hv
  obtain ⟨b',o',e,_,hc⟩:=h.2.1 (by omega)
  simp only [Option.some.injEq,Addr.mk.injEq] at e
  obtain ⟨rfl,rfl,_⟩:=e
  have hj:j<32:=by
    have:=(List.getElem?_eq_some_iff.1 hv).1
    rw [show (z00 (HSH l i)).length=32 by simp [z00,z1s h.1 hi]] at this
    exact this
  rw [z0t _ _ (by rw [z1s h.1 hi];exact hj),zcQ hj] at hv
  rw [show o+i*32+j=o+(32*i+j) by omega,hc _ (by omega)]
  exact hv
theorem zcR (w:World) {h:List Int} (hl:h.length=32) (hr:∀ x∈h,0≤x∧x≤255) (t:TypeId):Bytes (w.alloc (.cells (z00 h).toArray t)) (some ⟨w.heap.size,0,none⟩) 32 h:=by
  refine ⟨hl,fun _=>⟨w.heap.size,0,rfl,by simp,fun i hi=>?_⟩,hr⟩
  rw [Nat.zero_add,World.cell?_alloc_at _ _ _ _ rfl,List.getElem?_toArray,z0t h i (by omega)]
theorem z6D (w:World) (x:Int):(w.alloc (.cells #[.int .u8 x] 5)).ownsRow w.heap.size 5 1 (.slice (some ⟨w.heap.size,0,none⟩) 1 1) 1 (z00 [x]):=
  World.ownsRow_lit w #[.int .u8 x] 1 (Nat.le_refl _) (by simp [maxLen]) rfl
theorem zfL {w:World} {base n:Nat} {v:Value} {l:List Int} (h:w.ownsRow base 5 1 v n (z00 l)):l.length=n:=by
  have:=h.1
  simpa [z00] using this
end Go.Proofs.YtnmalbngdhjhjaaGreatDoor

namespace Go.Proofs.YtnmalbngdhjhjaaGreatDoor
open Go.RowKit
set_option maxRecDepth 100000
end Go.Proofs.YtnmalbngdhjhjaaGreatDoor

namespace Go.Proofs.YtnmalbngdhjhjaaGreatDoor
open Go.RowKit
end Go.Proofs.YtnmalbngdhjhjaaGreatDoor

namespace Go.Proofs.YtnmalbngdhjhjaaGreatDoor
open Go.RowKit
set_option maxRecDepth 100000
end Go.Proofs.YtnmalbngdhjhjaaGreatDoor

namespace Go.Proofs.YtnmalbngdhjhjaaGreatDoor
open Go.RowKit
set_option maxRecDepth 100000
theorem z1w {w w1 w2:World} {r r':Option Nat} (h:w.grownBy w1 r) (h':w1.grownBy w2 r') (hr:r'=r∨∀ g,r'=some g→w.heap.size≤g):w.grownBy w2 r:=by
  obtain ⟨a1,a2,a3,a4,a5⟩:=h
  obtain ⟨b1,b2,b3,b4,b5⟩:=h'
  refine ⟨by rw [b1,a1],by rw [b2,a2],by rw [b3,a3],Nat.le_trans a4 b4,fun k hk hne=>?_⟩
  rw [b5 k (by omega) (fun e=>?_),a5 k hk hne]
  rcases hr with hr | hr
  · exact hne (by rw [e,hr])
  · have:=hr k e.symm
    omega
theorem z40 {w w':World} {r:Option Nat} (h:w.grownBy w' r):w.heap.size≤w'.heap.size:=by
  obtain ⟨_,_,_,hs,_⟩:=h
  exact hs
theorem z59 (w:World) (o:Obj) (r:Option Nat):w.grownBy (w.alloc o) r:=⟨rfl,rfl,rfl,by simp,fun k hk _=>heap_alloc_old w o hk⟩
theorem z41 {w:World} {B n g m c:Nat} {xs:List Value} (h:w.ownsRow B 24 1 (.slice (some ⟨g,0,none⟩) m c) n xs):m=n:=by
  rcases h.2 with ⟨e,_⟩ | ⟨_,_,_,e,_⟩
  · simp at e
  · simp at e
    omega
end Go.Proofs.YtnmalbngdhjhjaaGreatDoor

namespace Go.Proofs.YtnmalbngdhjhjaaGreatDoor
open Go.RowKit
set_option maxRecDepth 100000
theorem z06 {ops:Array Oper} {o:Oper} {a:Act} {w w':World} {K:Act→World→Prop} {Q:Exit→Act→World→Prop} {E:Prop} {v:Value} (hg:o.guard=none)
    (hrun:(execOp a.eval o).run Tryz.prog w=.ok (.value v) w') (h:K (a.put o.dst v) w'):if Region.wanted o (yielded ops a.tmps)=true then Oper.wp Tryz.prog o a w K Q else E:=by
  have hw:Region.wanted o (yielded ops a.tmps)=true:=by simp [Region.wanted,hg]
  rw [if_pos hw]
  unfold Oper.wp
  rw [hrun]
  exact h
theorem z1a {ops:Array Oper} {o:Oper} {a:Act} {w w':World} {K:Act→World→Prop} {Q:Exit→Act→World→Prop} {E:Prop} (hg:o.guard=none)
    (hrun:(execOp a.eval o).run Tryz.prog w=.ok .skip w') (h:K (a.put o.dst undef) w'):if Region.wanted o (yielded ops a.tmps)=true then Oper.wp Tryz.prog o a w K Q else E:=by
  have hw:Region.wanted o (yielded ops a.tmps)=true:=by simp [Region.wanted,hg]
  rw [if_pos hw]
  unfold Oper.wp
  rw [hrun]
  exact h
theorem z1p {s:Sem Unit} {w w':World} (h:s.run Tryz.prog w=.ok () w'):(do s;pure Next.skip:Sem Next).run Tryz.prog w=.ok .skip w':=by
  simp [h]
theorem z2J {ops:Array Oper} {Q:Exit→Act→World→Prop} {md:Region.Mode} {S:World→Prop} {fuel:Nat} {listed:Array Bool} {a:Act} {w:World} {o:Oper} (i:Nat) (hr:Region.ready md ops listed=[i]) (ho:ops[i]?=some o)
    (h:∀ K':Act→World→Prop,Shut (∀ a w,S w→(S w→wpAnyH Tryz.prog md ops Q S fuel (listed.setIfInBounds i true) a w)→K' a w)→if Region.wanted o (yielded ops a.tmps)=true then Oper.wp Tryz.prog o a w K' Q else K' (a.put o.dst undef) w):wpAnyH Tryz.prog md ops Q S (fuel+1) listed a w:=
  wpAnyH_ready hr (by simp) (AllReadyH.cons ho h AllReadyH.nil)
theorem z07 {s:Sem Value} {w w':World} {v:Value} (h:s.run Tryz.prog w=.ok v w'):(do pure (Next.value (← s)):Sem Next).run Tryz.prog w=.ok (.value v) w':=by
  simp [h,Result.andThen]
end Go.Proofs.YtnmalbngdhjhjaaGreatDoor

namespace Go.Proofs.YtnmalbngdhjhjaaGreatDoor
open Go.RowKit
set_option maxRecDepth 100000
theorem z8n {w w':World} {B:Nat} {t:TypeId} {s:Nat} {v:Value} {n:Nat} {xs:List Value} (h:w.ownsRow B t s v n xs) (hk:∀ k,v.ownBlock=some k→w'.heap[k]?=w.heap[k]?):w'.ownsRow B t s v n xs:=by
  refine ⟨h.1,?_⟩
  rcases h.2 with h | ⟨g,cap,cur,rfl,hb,hg,r⟩
  · exact .inl h
  · exact .inr ⟨g,cap,cur,rfl,hb,by rw [hk g rfl];exact hg,r⟩
def ZND:List Int:=List.replicate 32 0
abbrev ZARR:Array Value:=#[.int .u8 0,.int .u8 0,.int .u8 0,.int .u8 0,.int .u8 0,.int .u8 0,.int .u8 0,.int .u8 0,.int .u8 0,.int .u8 0,.int .u8 0,.int .u8 0,.int .u8 0,.int .u8 0,.int .u8 0,.int .u8 0,.int .u8 0,.int .u8 0,.int .u8 0,.int .u8 0,.int .u8 0,.int .u8 0,.int .u8 0,.int .u8 0,.int .u8 0,.int .u8 0,.int .u8 0,.int .u8 0,.int .u8 0,.int .u8 0,.int .u8 0,.int .u8 0]
theorem zfM:(z00 ZND).toArray=ZARR:=rfl
theorem z0D {fn:Func} {p q:Tmp} {ty:TypeId} (h:fn.results=#[.cell p ty,.tmp q]) (tmps:Array Value) (w:World) (g:Nat) (t:TypeId) (cs:Array Value) (fr:Nat × Nat) (k:Nat) (el:TypeId)
    (hp:tmps.getD p undef=.pointer (some ⟨g,0,none⟩)) (hg:w.heap[g]?=some (.cells cs t fr)) (v:Value) (hq:tmps.getD q undef=v)
    (hu:Tryz.prog.underlying ty=some (.array k el)) (hi:(Tryz.prog.info? ty).map (·.size)=some cs.size):
    (results fn tmps).run Tryz.prog w=.ok (.tuple #[.agg cs,v]) w:=by
  have hp':tmps[p]?.getD undef=.pointer (some ⟨g,0,none⟩):=by simpa using hp
  have hq':tmps[q]?.getD undef=v:=by simpa using hq
  simp [results,h,hp',hq',asAddr,run_loadVar_row w g t ty cs fr (.array k el) hg hu rfl hi]
theorem z27:(Tryz.prog.info? 35).map (fun i=>(i.zero,i.size,i.bytes))=some (some (.agg ZARR),32,32):=by kernel_rfl
theorem z4E {ops:Array Oper} {rest:List Oper} {o:Oper} {a:Act} {Q:Exit→Act→World→Prop} (w:World) (hgd:o.guard=none) (s x:Operand)
    (ho:o.op=.call {callee:=.builtin .append,args:=#[s,x],argTypes:=#[22,22]})
    (base:Nat) (v:Value) (n:Nat) (xs:List Value) (hs:a.eval s=v) (hown:w.ownsRow base 35 32 v n xs)
    (b c:Nat) (y:List Int) (hl:y.length=32) (hx:a.eval x=.slice (some ⟨b,0,none⟩) 1 c) (hc:Has w b (z00 y).toArray 35)
    (hb:n≤100000) (hbase:base≤w.heap.size)
    (h:∀ g cap w',w'.ownsRow base 35 32 (.slice (some ⟨g,0,none⟩) (n+1) cap) (n+1) (xs ++ z00 y)→w.grownBy w' v.ownBlock→(v.ownBlock=some g∨g=w.heap.size)→g<w'.heap.size→wpList Tryz.prog ops Q rest (a.put o.dst (.slice (some ⟨g,0,none⟩) (n+1) cap)) w'):wpList Tryz.prog ops Q (o :: rest) a w:=by
  obtain ⟨i,hi,hz,hs1,hby⟩:=info_parts z27
  refine wpList_append_lies w hgd s x 22 ho base 35 i (.agg ZARR) 32 32 Tryz.underlying22 hi hz hs1 hby rfl (by decide) v n xs hs hown ⟨b,0,none⟩ 1 c (z00 y) hx (by rw [z00,List.length_map,hl]) ?_ (z1l y) (by decide) (by simp only [maxLen];omega) (by omega) hbase w.heap.size rfl h
  intro j u hj
  rw [z0L,Nat.zero_add,hc.cell,List.getElem?_toArray]
  exact hj
theorem z8o {ops:Array Oper} {rest:List Oper} {o:Oper} {a:Act} {Q:Exit→Act→World→Prop} (w:World) (hgd:o.guard=none) (s x:Operand)
    (ho:o.op=.call {callee:=.builtin .append,args:=#[s,x],argTypes:=#[22,22]})
    (base:Nat) (v:Value) (n:Nat) (xs:List Value) (hs:a.eval s=v) (hown:w.ownsRow base 35 32 v n xs)
    (b c:Nat) (y:List Int) (hl:y.length=32) (hx:a.eval x=.slice (some ⟨b,0,none⟩) 1 c) (hc:Has w b (z00 y).toArray 35)
    (hb:n≤1000) (hbase:base≤w.heap.size)
    (h:∀ g cap w',w'.ownsRow base 35 32 (.slice (some ⟨g,0,none⟩) (n+1) cap) (n+1) (xs ++ z00 y)→w.grownBy w' v.ownBlock→(v.ownBlock=some g∨g=w.heap.size)→g<w'.heap.size→wpList Tryz.prog ops Q rest (a.put o.dst (.slice (some ⟨g,0,none⟩) (n+1) cap)) w'):wpList Tryz.prog ops Q (o :: rest) a w:=
  z4E w hgd s x ho base v n xs hs hown b c y hl hx hc (by omega) hbase h
theorem z1d {ops:Array Oper} {rest:List Oper} {o:Oper} {a:Act} {Q:Exit→Act→World→Prop} (w:World) (hg:o.guard=none) (t e:TypeId) (x:Operand) (ho:o.op=.buildSlice t 1 #[(0,x)]) (C:Array Value) (hx:a.eval x=.agg C) (n:Nat) (z:Value) (by':Nat)
    (hu:Tryz.prog.underlying t=some (.slice e)) (hi:(Tryz.prog.info? e).map (fun i=>(i.zero,i.size,i.bytes))=some (some z,n,by')) (hC:C.size=n) (hz:z.cells.size=n) (hn:0<n) (hs:n≤1000)
    (h:wpList Tryz.prog ops Q rest (a.put o.dst (.slice (some ⟨w.heap.size,0,none⟩) 1 1)) (w.alloc (.cells C e))):wpList Tryz.prog ops Q (o :: rest) a w:=by
  obtain ⟨i,hie,hz',hs1,_⟩:=info_parts hi
  refine wpList_buildSlice hg t e 1 _ ho C i z hu hie hz' (by rw [hs1];omega) (by rw [hs1];omega) ?_ h
  have:=Great.fill_whole (s:=n) hn [.agg C] ((Array.range (1*i.size)).map (z.cells[· % z.cells.size]!)) (fun v hv=>by simp at hv;subst hv;exact hC) (by simp [hs1])
  simp [Value.cells] at this
  rw [hs1]
  simp [hx]
  rw [hs1] at this
  exact this
theorem z5a (d:Nat) (h g:List Int) (hh:h.length=32) (hg:g.length=32) (w:World):∀ is:List Nat,(∀ i∈is,i<32)→(Op.eqItems (d+1) 5 1 (z00 h).toArray (z00 g).toArray is).run Tryz.prog w=.ok (is.all fun i=>h.getD i 0 == g.getD i 0) w
  | [],_=>by simp [Op.eqItems]
  | i :: is,hi=>by
    have hp:Tryz.prog.plainKey 5=true:=by kernel_rfl
    have hi32:i<32:=hi i (by simp)
    have h1:=run_part_plain (P:=Tryz.prog) w hp (show (z00 h).toArray[i]?=some (.int .u8 (h.getD i 0)) by rw [List.getElem?_toArray,z0t h i (by omega)])
    have h2:=run_part_plain (P:=Tryz.prog) w hp (show (z00 g).toArray[i]?=some (.int .u8 (g.getD i 0)) by rw [List.getElem?_toArray,z0t g i (by omega)])
    have h3:=run_equalIn_int (P:=Tryz.prog) w d 5 .u8 .u8 (h.getD i 0) (g.getD i 0) Tryz.underlying5
    have ih:=z5a d h g hh hg w is (fun j hj=>hi j (by simp [hj]))
    rw [Op.eqItems,Nat.mul_one]
    simp only [Sem.run_bind,h1,h2,h3,Result.andThen_ok]
    by_cases e:h.getD i 0=g.getD i 0
    · have e2:(h.getD i 0 == g.getD i 0)=true:=by simpa using e
      rw [List.all_cons,e2,Bool.true_and,if_neg (by simp)]
      exact ih
    · have e2:(h.getD i 0 == g.getD i 0)=false:=by simpa using e
      rw [List.all_cons,e2]
      simp
theorem z5b (h g:List Int) (hh:h.length=32) (hg:g.length=32) (w:World):(Op.equalIn 10000 35 (.agg (z00 h).toArray) (.agg (z00 g).toArray)).run Tryz.prog w=.ok ((List.range 32).all fun i=>h.getD i 0 == g.getD i 0) w:=by
  obtain ⟨i8,hi,_⟩:=Option.map_eq_some_iff.1 z0M
  rw [run_equalIn_array (P:=Tryz.prog) w 9999 (z00 h).toArray (z00 g).toArray Tryz.underlying35 hi]
  have hc:Tryz.prog.cellsOf 5=1:=by kernel_rfl
  rw [hc]
  exact z5a 9998 h g hh hg w _ (fun i hi=>by simpa using hi)
theorem zcS (h:List Int) (hh:h.length=32) (x y:Operand) (w:World):(do eqGuard .neq 35 x y (.agg (z00 h).toArray) (.agg (z00 h).toArray);binOp .neq 35 (.agg (z00 h).toArray) (.agg (z00 h).toArray):Sem Value).run Tryz.prog w=.ok (.bool false) w:=by
  simp only [Sem.run_bind,run_eqGuard_agg (P:=Tryz.prog) w .neq 35 x y _ _ (by kernel_rfl),Result.andThen_ok,run_neq_struct,z5b h h hh hh]
  simp
theorem zcT {h g:List Int} (hh:h.length=32) (hg:g.length=32):((List.range 32).all fun i=>h.getD i 0 == g.getD i 0)=decide (h=g):=by
  by_cases e:h=g
  · subst e
    simp
  · rw [decide_eq_false e,Bool.eq_false_iff]
    intro hx
    rw [List.all_eq_true] at hx
    apply e
    apply List.ext_getElem (by omega)
    intro i h1 h2
    have:=hx i (by simp;omega)
    simpa [List.getD,h1,h2] using this
theorem z8p {h g:List Int} (hh:h.length=32) (hg:g.length=32) (w:World):(Op.equalIn 10000 35 (.agg (z00 h).toArray) (.agg (z00 g).toArray)).run Tryz.prog w=.ok (decide (h=g)) w:=by
  rw [z5b h g hh hg,zcT hh hg]
theorem zbp {h g:List Int} (hh:h.length=32) (hg:g.length=32) (x y:Operand) (w:World):(do eqGuard .neq 35 x y (.agg (z00 h).toArray) (.agg (z00 g).toArray);binOp .neq 35 (.agg (z00 h).toArray) (.agg (z00 g).toArray):Sem Value).run Tryz.prog w=.ok (.bool (!decide (h=g))) w:=by
  simp only [Sem.run_bind,run_eqGuard_agg (P:=Tryz.prog) w .neq 35 x y _ _ (by kernel_rfl),Result.andThen_ok,run_neq_struct,z8p hh hg]
end Go.Proofs.YtnmalbngdhjhjaaGreatDoor

namespace Go.Proofs.YtnmalbngdhjhjaaGreatDoor
open Go.RowKit Go.Maps
set_option maxRecDepth 100000
theorem z5l:laidOutB Tryz.prog=true:=by kernel_rfl
theorem zap:(104:TypeId)<Tryz.prog.types.size:=of_decide_eq_true (by kernel_rfl)
theorem zeq:(match Tryz.prog.underlying 104 with | some (.array _ _) | some (.struct _)=>true | _=>false)=true:=by rw [Tryz.underlying104]
theorem law:Keyed Tryz.prog 104:=Keyed.of_law (deep_law_laid z5l (m:=2) (by omega) zap (by kernel_rfl) zeq)
def KL (h k:Nat):Lit:=.string (keyBytes [.int .u8 (h:Int),.int .u64 (k:Int)])
theorem z8q {h k:Nat} (hh:h<256) (hk:k<2 ^ 64):keyOf Tryz.prog 104 (SPOT h k)=some (KL h k):=by
  have w0:(Lit.int .u8 (h:Int)).wf=true:=WalkArith.wf_u8 (by omega)
  have w1:(Lit.int .u64 (k:Int)).wf=true:=WalkArith.wf_u64 (by omega)
  have c3:Tryz.prog.cellsOf 104=2:=by kernel_rfl
  have c1:Tryz.prog.cellsOf 5=1:=by kernel_rfl
  have c2:Tryz.prog.cellsOf 24=1:=by kernel_rfl
  have ht:Tryz.prog.keyType 104=true:=by kernel_rfl
  have hf:(SPOT h k).formed Tryz.prog 104=true:=by simp [Value.formed,Tryz.underlying104,c3]
  obtain ⟨m,hm⟩:∃ m,Tryz.prog.types.size=m+1:=⟨Tryz.prog.types.size - 1,(Nat.succ_pred_eq_of_pos (Nat.lt_of_le_of_lt (Nat.zero_le _) zap)).symm⟩
  unfold keyOf
  simp only [Tryz.underlying104,ht,hf,hm]
  simp [Program.keyLits,Tryz.underlying104,Tryz.underlying5,Tryz.underlying24,c1,c2,c3,Value.cells,w0,w1,KL]
theorem zgI {h k h' k':Nat} (hh:h<256) (hk:k<2 ^ 64) (hh':h'<256) (hk':k'<2 ^ 64) (e:KL h k=KL h' k'):h=h'∧k=k':=by
  have h1:=z8q hh hk
  have h2:=z8q hh' hk'
  rw [← e] at h2
  have:=law.inj h1 h2
  simp at this
  omega
abbrev U64 (n:Nat):DataW Unit:=.lit (.int .u64 (n:Int))
def MapOk (D:DataW Unit) (m:Nat):Prop:=∀ h k,h<256→k<2 ^ 64→(Maps.has D (KL h k)=true↔Node h k∧PLC h k<m)∧(Node h k→PLC h k<m→D.atKey (KL h k) (U64 0)=U64 (PLC h k))
theorem MapOk.none:MapOk (.map []) 0:=fun h k _ _=>⟨⟨fun e=>by simp [Maps.has] at e,fun e=>by omega⟩,fun _ e=>by omega⟩
theorem Node.small {h k:Nat} (a:Node h k):h<256∧k<2 ^ 64:=⟨by have:=a.1;omega,by have:=a.index_lt;omega⟩
theorem MapOk.put {D:DataW Unit} {m h k:Nat} (hD:Maps.IsMap D) (hM:MapOk D m) (hN:Node h k) (hp:PLC h k=m):MapOk (D.put (KL h k) (U64 m)) (m+1):=by
  intro h' k' hh' hk'
  obtain ⟨hh,hk⟩:=hN.small
  have hkey:WideAt.IsKeyLit (KL h k):=law.key (z8q hh hk)
  by_cases e:KL h' k'=KL h k
  · obtain ⟨rfl,rfl⟩:=zgI hh' hk' hh hk e
    exact ⟨⟨fun _=>⟨hN,by omega⟩,fun _=>Maps.has_put_same hD hkey _⟩,fun _ _=>by rw [Maps.atKey_put_same hD hkey,hp]⟩
  · have hne:∀ _:Node h' k',PLC h' k'≠m:=fun hN' e2=>e (by obtain ⟨rfl,rfl⟩:=hN'.one hN (by omega);rfl)
    rw [Maps.has_put_other e,Maps.atKey_put_other e]
    obtain ⟨a,b⟩:=hM h' k' hh' hk'
    refine ⟨⟨fun h=>?_,fun h=>?_⟩,fun h1 h2=>b h1 (by have:=hne h1;omega)⟩
    · have:=a.1 h
      exact ⟨this.1,by omega⟩
    · exact a.2 ⟨h.1,by have:=hne h.1;omega⟩
def Placed (w:World) (b m:Nat):Prop:=∃ D:DataW Unit,w.ownsMap Tryz.prog 104 (plainElem Tryz.prog 24) b m D∧MapOk D m
theorem Placed.made (w:World):Placed (w.alloc (.map #[] 0)) w.heap.size 0:=⟨_,World.ownsMap_made w _ _ _,MapOk.none⟩
theorem Placed.kept {w w':World} {b m:Nat} {row:Option Nat} (h:Placed w b m) (hg:w.grownBy w' row) (hne:some b≠row):Placed w' b m:=let ⟨D,h1,h2⟩:=h; ⟨D,h1.kept hg hne,h2⟩
theorem Placed.lt {w:World} {b m:Nat} (h:Placed w b m):b<w.heap.size:=let ⟨_,h1,_⟩:=h;h1.lt
theorem Placed.below {w w':World} {b m:Nat} (h:Placed w b m) (hb:Below w.heap.size w w'):Placed w' b m:=by
  have hlt:=h.lt
  obtain ⟨D,⟨es,clock,h1,r⟩,h2⟩:=h
  exact ⟨D,⟨es,clock,(hb.block b hlt).trans h1,r⟩,h2⟩
theorem Placed.alloc {w:World} {b m:Nat} (h:Placed w b m) (o:Obj):Placed (w.alloc o) b m:=h.below ((Below.refl _ _).alloc (Nat.le_refl _) _)
theorem Placed.setCell {w:World} {b m:Nat} (h:Placed w b m) {a:Addr} (ha:b≠a.block) (u:Value):Placed (w.setCell a u) b m:=let ⟨D,h1,h2⟩:=h; ⟨D,h1.setCell ha u,h2⟩
end Go.Proofs.YtnmalbngdhjhjaaGreatDoor

namespace Go.Proofs.YtnmalbngdhjhjaaGreatDoor
open Go.RowKit Go.Maps
set_option maxRecDepth 100000
def RV (v:Value):Option (DataW Value × List MemPlace):=some (.held v,[])
theorem z1A (w:World):(zeroValue 35).run Tryz.prog w=.ok (.agg ZARR) w:=by kernel_rfl
def SMAP (w:World) (b n:Nat) (M:Nat→Nat→List Int):Prop:=∃ D:DataW Value,w.ownsMap Tryz.prog 104 RV b n D∧∀ h k,h<256→k<2 ^ 64→D.atKey (KL h k) (.held (.agg ZARR))=.held (.agg (z00 (M h k)).toArray)
theorem SMAP.made (w:World):SMAP (w.alloc (.map #[] 0)) w.heap.size 0 (fun _ _=>ZND):=⟨_,World.ownsMap_made w _ _ _,fun h k _ _=>by simp [DataW.atKey];rfl⟩
theorem SMAP.lt {w:World} {b n:Nat} {M:Nat→Nat→List Int} (h:SMAP w b n M):b<w.heap.size:=let ⟨_,h1,_⟩:=h;h1.lt
theorem SMAP.at {w w':World} {b n:Nat} {M:Nat→Nat→List Int} (h:SMAP w b n M) (hb:w'.heap[b]?=w.heap[b]?):SMAP w' b n M:=by
  obtain ⟨D,⟨es,clock,h1,r⟩,h2⟩:=h
  exact ⟨D,⟨es,clock,hb.trans h1,r⟩,h2⟩
theorem SMAP.below {w w':World} {b n:Nat} {M:Nat→Nat→List Int} (h:SMAP w b n M) (hb:Below w.heap.size w w'):SMAP w' b n M:=h.at (hb.block b h.lt)
end Go.Proofs.YtnmalbngdhjhjaaGreatDoor

namespace Go.Proofs.YtnmalbngdhjhjaaGreatDoor
open Go.RowKit
set_option maxRecDepth 100000
end Go.Proofs.YtnmalbngdhjhjaaGreatDoor

namespace Go.Proofs.YtnmalbngdhjhjaaGreatDoor
open Go.RowKit
set_option maxRecDepth 100000
def LST (f:Nat→Nat):List Int:=(List.range 32).map fun i=>((f i:Nat):Int)
def FNC (h:List Int) (i:Nat):Nat:=(h.getD i 0).toNat
def IsH (h:List Int):Prop:=h.length=32∧∀ x∈h,0≤x∧x≤255
theorem z68 (f:Nat→Nat):(LST f).length=32:=by simp [LST]
theorem zcU {f:Nat→Nat} (h:∀ i,f i<256):IsH (LST f):=⟨z68 f,fun x hx=>by
  obtain ⟨i,_,rfl⟩:=List.mem_map.1 hx
  have:=h i
  omega⟩
theorem z42 (f:Nat→Nat):HX.UARR .u8 32 f=(z00 (LST f)).toArray:=by
  unfold HX.UARR z00 LST
  rw [List.map_map]
  rfl
theorem zaq {h:List Int} (hh:IsH h):LST (FNC h)=h:=by
  apply List.ext_getElem (by rw [z68,hh.1])
  intro i h1 h2
  simp only [LST,List.getElem_map,List.getElem_range,FNC]
  have:=hh.2 h[i] (List.getElem_mem h2)
  rw [List.getD_eq_getElem?_getD,List.getElem?_eq_getElem h2,Option.getD_some]
  omega
theorem z43 {h:List Int} (hh:IsH h):(z00 h).toArray=HX.UARR .u8 32 (FNC h):=by rw [z42,zaq hh]
theorem z69 {h:List Int} (hh:IsH h) (i:Nat):FNC h i<256:=by
  unfold FNC
  by_cases hi:i<h.length
  · rw [List.getD_eq_getElem?_getD,List.getElem?_eq_getElem hi,Option.getD_some]
    have:=hh.2 h[i] (List.getElem_mem hi)
    omega
  · rw [List.getD_eq_getElem?_getD,List.getElem?_eq_none (by omega)]
    decide
def NATS (h:List Int):List Nat:=(List.range 32).map (FNC h)
def z0R (d:Int) (l r:List Int):List Int:=LST (HX.z0E d (1 :: (NATS l ++ NATS r)))
theorem zer (d:Int) (l r:List Int):IsH (z0R d l r):=zcU fun i=>HX.z2Q d _ _ i
end Go.Proofs.YtnmalbngdhjhjaaGreatDoor

namespace Go.Proofs.YtnmalbngdhjhjaaGreatDoor
open Go.RowKit
set_option maxRecDepth 100000
theorem zfN {l k:List Int} {n:Nat} (hl:l.length=32*n) (hk:k.length=32*n) (h:∀ i,i<n→HSH l i=HSH k i):l=k:=by
  have e:∀ i,i≤n→l.take (32*i)=k.take (32*i):=by
    intro i
    induction i with
    | zero=>intro _;simp
    | succ i ih=>intro hi;rw [z5w,z5w,ih (by omega),h i (by omega)]
  have:=e n (Nat.le_refl _)
  rwa [List.take_of_length_le (by omega),List.take_of_length_le (by omega)] at this
@[go_sem] def SHOPSq0:Oper:=⟨some 17,.move (.tmp 0),22,"ref.go:176",#[],none⟩
@[go_sem] def SHOPSq1:Oper:=⟨some 18,.move (.tmp 5),3,"ref.go:176",#[],none⟩
@[go_sem] def SHOPSq2:Oper:=⟨some 19,.indexAddr 22 (.tmp 17) (.tmp 18),0,"ref.go:176",#[⟨0,.data⟩,⟨1,.data⟩],none⟩
@[go_sem] def SHOPSq3:Oper:=⟨some 20,.load 35 (.tmp 19),35,"ref.go:176",#[⟨2,.data⟩],none⟩
@[go_sem] def SHOPSq4:Oper:=⟨some 21,.move (.tmp 1),22,"ref.go:176",#[],none⟩
@[go_sem] def SHOPSq5:Oper:=⟨some 22,.move (.tmp 5),3,"ref.go:176",#[],none⟩
@[go_sem] def SHOPSq6:Oper:=⟨some 23,.indexAddr 22 (.tmp 21) (.tmp 22),0,"ref.go:176",#[⟨4,.data⟩,⟨5,.data⟩],none⟩
@[go_sem] def SHOPSq7:Oper:=⟨some 24,.load 35 (.tmp 23),35,"ref.go:176",#[⟨6,.data⟩],none⟩
@[go_sem] def SHOPSq8:Oper:=⟨some 25,.binOp .neq 35 (.tmp 20) (.tmp 24) 35,4,"ref.go:176",#[⟨3,.data⟩,⟨7,.data⟩],none⟩
def zbq:Array Oper:=#[SHOPSq0,SHOPSq1,SHOPSq2,SHOPSq3,SHOPSq4,SHOPSq5,SHOPSq6,SHOPSq7,SHOPSq8]
set_option maxHeartbeats 2000000 in
theorem z5c {Q:Exit→Act→World→Prop} (u2 u3 u4 u6 u7 u8 u9 u10 u11 u12 u13 u14 u15 u16 u17 u18 u19 u20 u21 u22 u23 u24 u25:Value) (W:World) (w0:World) (ba oa n ca bb ob m cb i:Nat) (H K:List Int) (hH:H.length=32) (hK:K.length=32) (b1:(i:Int)<(n:Int)) (b2:(i:Int)<(m:Int)) (hS:(fun W:World=>W.rangeAt ba (oa+i*32) (z00 H)∧W.rangeAt bb (ob+i*32) (z00 K)∧Below w0.heap.size w0 W) W) (hQ:∀ c (a:Act) (t:Tmp) (v:Value) w,Q (.panic c) (a.put (some t) v) w→Q (.panic c) a w)
    (h:∀ w,(fun W:World=>W.rangeAt ba (oa+i*32) (z00 H)∧W.rangeAt bb (ob+i*32) (z00 K)∧Below w0.heap.size w0 W) w→Q .normal {tmps:=#[.slice (some ⟨ba,oa,none⟩) n ca,.slice (some ⟨bb,ob,none⟩) m cb,u2,u3,u4,.int .i64 (i:Int),u6,u7,u8,u9,u10,u11,u12,u13,u14,u15,u16,.slice (some ⟨ba,oa,none⟩) n ca,.int .i64 (i:Int),.pointer (some ⟨ba,oa+i*32,none⟩),.agg (z00 H).toArray,.slice (some ⟨bb,ob,none⟩) m cb,.int .i64 (i:Int),.pointer (some ⟨bb,ob+i*32,none⟩),.agg (z00 K).toArray,.bool (!decide (H=K))],defers:=[]} w):(Code.region 6 zbq true).wp Tryz.prog Q {tmps:=#[.slice (some ⟨ba,oa,none⟩) n ca,.slice (some ⟨bb,ob,none⟩) m cb,u2,u3,u4,.int .i64 (i:Int),u6,u7,u8,u9,u10,u11,u12,u13,u14,u15,u16,u17,u18,u19,u20,u21,u22,u23,u24,u25],defers:=[]} W:=by
  have hs0:(fun W:World=>W.rangeAt ba (oa+i*32) (z00 H)∧W.rangeAt bb (ob+i*32) (z00 K)∧Below w0.heap.size w0 W) W.drew:=⟨hS.1,hS.2.1,hS.2.2.drew⟩
  have k0:∀ w,(fun W:World=>W.rangeAt ba (oa+i*32) (z00 H)∧W.rangeAt bb (ob+i*32) (z00 K)∧Below w0.heap.size w0 W) w→wpAnyH Tryz.prog .any zbq Q (fun W:World=>W.rangeAt ba (oa+i*32) (z00 H)∧W.rangeAt bb (ob+i*32) (z00 K)∧Below w0.heap.size w0 W) 9 #[false,false,false,false,false,false,false,false,false] {tmps:=#[.slice (some ⟨ba,oa,none⟩) n ca,.slice (some ⟨bb,ob,none⟩) m cb,u2,u3,u4,.int .i64 (i:Int),u6,u7,u8,u9,u10,u11,u12,u13,u14,u15,u16,u17,u18,u19,u20,u21,u22,u23,u24,u25],defers:=[]} w:=fun w hw=>by
    have hww:(fun W:World=>W.rangeAt ba (oa+i*32) (z00 H)∧W.rangeAt bb (ob+i*32) (z00 K)∧Below w0.heap.size w0 W) w:=hw
    have last:wpAnyH Tryz.prog .any zbq Q (fun W:World=>W.rangeAt ba (oa+i*32) (z00 H)∧W.rangeAt bb (ob+i*32) (z00 K)∧Below w0.heap.size w0 W) 0 #[true,true,true,true,true,true,true,true,true] {tmps:=#[.slice (some ⟨ba,oa,none⟩) n ca,.slice (some ⟨bb,ob,none⟩) m cb,u2,u3,u4,.int .i64 (i:Int),u6,u7,u8,u9,u10,u11,u12,u13,u14,u15,u16,.slice (some ⟨ba,oa,none⟩) n ca,.int .i64 (i:Int),.pointer (some ⟨ba,oa+i*32,none⟩),.agg (z00 H).toArray,.slice (some ⟨bb,ob,none⟩) m cb,.int .i64 (i:Int),.pointer (some ⟨bb,ob+i*32,none⟩),.agg (z00 K).toArray,.bool (!decide (H=K))],defers:=[]} w:=wpAnyH_done (by kernel_rfl) (h w hw) _
    refine tkP SHOPSq0 (.slice (some ⟨ba,oa,none⟩) n ca) 0 hQ hww ?_
    simp only [List.set]
    refine tkP SHOPSq1 (.int .i64 (i:Int)) 1 hQ hww ?_
    simp only [List.set]
    refine tkP SHOPSq2 (.pointer (some ⟨ba,oa+i*32,none⟩)) 2 hQ hww ?_
    simp only [List.set]
    refine tkH SHOPSq3 (.agg (z00 H).toArray) 3 hQ (yieldsIf_load_mid (by rfl) 35 (.tmp 19) rfl ba (oa+i*32) rfl (z00 H) _ (fun w h=>h.1) Tryz.underlying35 rfl (z0u hH)) hww ?_
    simp only [List.set]
    refine tkP SHOPSq4 (.slice (some ⟨bb,ob,none⟩) m cb) 4 hQ hww ?_
    simp only [List.set]
    refine tkP SHOPSq5 (.int .i64 (i:Int)) 5 hQ hww ?_
    simp only [List.set]
    refine tkP SHOPSq6 (.pointer (some ⟨bb,ob+i*32,none⟩)) 6 hQ hww ?_
    simp only [List.set]
    refine tkH SHOPSq7 (.agg (z00 K).toArray) 7 hQ (yieldsIf_load_mid (by rfl) 35 (.tmp 23) rfl bb (ob+i*32) rfl (z00 K) _ (fun w h=>h.2.1) Tryz.underlying35 rfl (z0u hK)) hww ?_
    simp only [List.set]
    refine tkH SHOPSq8 (.bool (!decide (H=K))) 8 hQ (Yields.yieldsIf (Or.inl ⟨by rfl,fun W=>z07 (zbp hH hK _ _ W)⟩)) hww ?_
    simp only [List.set]
    exact last
  exact wp_region_held_drew (S:=(fun W:World=>W.rangeAt ba (oa+i*32) (z00 H)∧W.rangeAt bb (ob+i*32) (z00 K)∧Below w0.heap.size w0 W)) (by kernel_rfl) hs0 (fun _=>k0 _ hs0)
set_option maxHeartbeats 1000000 in
theorem z7t (a b:Option Addr) (n m ca cb:Nat) (l k:List Int) (w:World) (hA:Flat w a n l) (hB:Flat w b m k) (hn:n≤1000000):
    Calls Tryz.prog 28 #[.slice a n ca,.slice b m cb] w fun e w'=>e=.returned (.bool (decide (l=k)))∧Below w.heap.size w w':=by
  by_cases hnm:n=m
  · subst hnm
    rcases Nat.eq_zero_or_pos n with h | h
    · subst h
      have hd:decide (l=k)=true:=by
        rw [List.eq_nil_of_length_eq_zero hA.1,List.eq_nil_of_length_eq_zero hB.1]
        rfl
      rw [hd]
      clear hA hB hd
      go_enter Tryz.func28,Tryz.ntmps28
      go_wp2
      refine wp_loop_rounds 1 ?_
      rw [rounds_succ]
      go_wp2
      go_ret
      exact ⟨rfl,Below.refl _ _⟩
    · obtain ⟨ba,oa,rfl,la,hca⟩:=hA.2.1 h
      obtain ⟨bb,ob,rfl,lb,hcb⟩:=hB.2.1 h
      have HC:Aside (Flat w (some ⟨ba,oa,none⟩) n l∧Flat w (some ⟨bb,ob,none⟩) n k∧n≤1000000):=⟨hA,hB,hn⟩
      clear hA hB hca hcb la lb hn
      obtain ⟨D,hD⟩:∃ D,D=decide (l=k):=⟨_,rfl⟩
      rw [← hD]
      have HD:Aside (D=decide (l=k)):=hD
      clear hD
      go_enter Tryz.func28,Tryz.ntmps28
      go_wp2
      go_loopg [5] n (fun g s5 wx=>∃ i:Nat,s5=.int .i64 i∧Aside (i+g=n∧Below w.heap.size w wx∧∀ j,j<i→HSH l j=HSH k j))
      case atStart=>exact ⟨0,rfl,by omega,Below.refl _ _,fun j hj=>by omega⟩
      case round=>
        obtain ⟨i,rfl,A⟩:=hrel
        cases gk with
        | zero=>
          obtain rfl:i=n:=by have:=A.out.1;omega
          have hlt:¬ (i:Int)<(i:Int):=by omega
          have hd:Aside (D=true):=by
            show D=true
            rw [HD.out,decide_eq_true_iff]
            exact zfN HC.out.1.1 HC.out.2.1.1 A.out.2.2
          clear HD HC
          go_wp2
          go_ret
          exact ⟨by rw [hd.out];rfl,A.out.2.1⟩
        | succ g=>
          obtain ⟨hig,hbel,hbef⟩:=A.out
          have hlt:(i:Int)<(n:Int):=by omega
          have r1:=(HC.out.1.below hbel).at (show i<n by omega)
          have r2:=(HC.out.2.1.below hbel).at (show i<n by omega)
          have l1:=z1s HC.out.1.1 (show i<n by omega)
          have l2:=z1s HC.out.2.1.1 (show i<n by omega)
          have E1:Aside (wrap64 ((i:Int)+1)=((i+1:Nat):Int)):=by have:=HC.out.2.2;show wrap64 ((i:Int)+1)=((i+1:Nat):Int);unfold wrap64;omega
          by_cases he:HSH l i=HSH k i
          · have B:Aside (i+1+g=n∧∀ j,j<i+1→HSH l j=HSH k j):=⟨by omega,fun j hj=>by
              by_cases e:j=i
              · rw [e];exact he
              · exact hbef j (by omega)⟩
            have hdf:(!decide (HSH l i=HSH k i))=false:=by rw [he];simp
            have Z:Aside (Below w.heap.size w wr):=hbel
            clear he hig hbel hbef A HD HC
            generalize HSH l i=H at *
            generalize HSH k i=K at *
            go_upto_region 6 with fail
            refine z5c _ _ _ _ _ _ _ _ _ _ _ _ _ _ _ _ _ _ _ _ _ _ _ _ w ba oa n ca bb ob n cb i H K l1 l2 hlt hlt ⟨r1,r2,Z.out⟩ (fun _ _ _ _ _ h=>h) ?_
            rintro w1 ⟨_,_,q3⟩
            rw [hdf]
            clear r1 r2 l1 l2 hdf
            have Z2:Aside (Below w.heap.size w w1):=q3
            clear q3 Z
            have e1:=E1.out
            go_wp2
            go_roundg g
            case measure=>exact Nat.lt_succ_self _
            case rel=>exact ⟨i+1,by first | rfl | (rw [E1.out]),B.out.1,Z2.out,B.out.2⟩
          · have hd:Aside (D=false):=by
              show D=false
              rw [HD.out,decide_eq_false_iff_not]
              intro e
              rw [e] at he
              exact he rfl
            have hdf:(!decide (HSH l i=HSH k i))=true:=by simp [he]
            have Z:Aside (Below w.heap.size w wr):=hbel
            clear he hig hbel hbef A HD HC E1
            generalize HSH l i=H at *
            generalize HSH k i=K at *
            go_upto_region 6 with fail
            refine z5c _ _ _ _ _ _ _ _ _ _ _ _ _ _ _ _ _ _ _ _ _ _ _ _ w ba oa n ca bb ob n cb i H K l1 l2 hlt hlt ⟨r1,r2,Z.out⟩ (fun _ _ _ _ _ h=>h) ?_
            rintro w1 ⟨_,_,q3⟩
            rw [hdf]
            clear r1 r2 l1 l2 hdf
            have Z2:Aside (Below w.heap.size w w1):=q3
            clear q3 Z
            go_wp2
            go_ret
            exact ⟨by rw [hd.out];rfl,Z2.out⟩
  · have hne:¬ (n:Int)=(m:Int):=by omega
    have hd:decide (l=k)=false:=by
      rw [decide_eq_false_iff_not]
      intro e
      rw [e] at hA
      have:=hA.1.symm.trans hB.1
      omega
    rw [hd]
    clear hA hB hd
    go_enter Tryz.func28,Tryz.ntmps28
    go_wp2
    go_ret
    exact ⟨rfl,Below.refl _ _⟩
end Go.Proofs.YtnmalbngdhjhjaaGreatDoor

namespace Go.Proofs.YtnmalbngdhjhjaaGreatDoor
open Go.RowKit
set_option maxRecDepth 100000
end Go.Proofs.YtnmalbngdhjhjaaGreatDoor

namespace Go.Proofs.YtnmalbngdhjhjaaGreatDoor
open Go.RowKit
set_option maxRecDepth 100000
theorem zbr {w:World} {B n:Nat} {v:Value} {xs:List Value} (h:w.ownsRow B 35 32 v n xs):∃ a c,v=.slice a n c∧n≤c∧(0<n→∃ g,a=some ⟨g,0,none⟩):=by
  rcases h.2 with ⟨rfl,h0⟩ | ⟨g,cap,cur,rfl,_,_,h1,_⟩
  · subst h0
    exact ⟨none,0,rfl,Nat.le_refl _,fun h=>by omega⟩
  · exact ⟨_,_,rfl,h1,fun _=>⟨g,rfl⟩⟩
end Go.Proofs.YtnmalbngdhjhjaaGreatDoor

namespace Go.Proofs.YtnmalbngdhjhjaaGreatDoor
open Go.RowKit
set_option maxRecDepth 100000
theorem z55 {w w':World} {g o:Nat} {cs:List Value} (h:w.rangeAt g o cs) (hb:Below w.heap.size w w') (hg:g<w.heap.size):w'.rangeAt g o cs:=fun j v hv=>(hb.cell (p:=⟨g,o+j,none⟩) hg).trans (h j v hv)
theorem Flat.other {w:World} {b o n:Nat} {l:List Int} (h:Flat w (some ⟨b,o,none⟩) n l) {a:Addr} (ha:b≠a.block) (u:Value):Flat (w.setCell a u) (some ⟨b,o,none⟩) n l:=
  ⟨h.1,fun hn=>by
    obtain ⟨b',o',e,hl,hc⟩:=h.2.1 hn
    cases e
    exact ⟨b,o,rfl,Nat.lt_of_lt_of_le hl (KeepsWalks.setCell w a u).size,fun j hj=>(World.cell?_setCell_other w _ _ u (fun e=>ha (congrArg Addr.block e).symm)).trans (hc j hj)⟩,h.2.2⟩
theorem z1Q {w:World} {B n:Nat} {a:Option Addr} {c:Nat} {l:List Int} (h:w.ownsRow B 35 32 (.slice a n c) n (z00 l)) (hr:∀ x∈l,0≤x∧x≤255):Flat w a n l:=by
  have hl:l.length=32*n:=by have:=h.1;simpa [z00,Nat.mul_comm] using this
  refine ⟨hl,fun hn=>?_,hr⟩
  rcases h.2 with ⟨e,h0⟩ | ⟨g,cap,cur,e,_,hg,_⟩
  · omega
  · cases e
    refine ⟨g,0,rfl,(Array.getElem?_eq_some_iff.1 hg).1,fun j hj=>?_⟩
    have:=h.cellAt j (by omega)
    rw [Nat.zero_add,this,z0t l j (by omega)]
theorem Bytes.take {w:World} {a:Option Addr} {n:Nat} {l:List Int} (h:Bytes w a n l) {m:Nat} (hm:m≤n):Bytes w a m (l.take m):=by
  refine ⟨by rw [List.length_take,h.1];omega,fun h0=>?_,fun x hx=>h.2.2 x (List.mem_of_mem_take hx)⟩
  obtain ⟨b,o,e,hb,hc⟩:=h.2.1 (by omega)
  refine ⟨b,o,e,hb,fun i hi=>?_⟩
  rw [hc i (by omega),List.getD_eq_getElem?_getD,List.getD_eq_getElem?_getD,List.getElem?_take,if_pos hi]
end Go.Proofs.YtnmalbngdhjhjaaGreatDoor

namespace Go.Proofs.YtnmalbngdhjhjaaGreatDoor
open Go.RowKit
set_option maxRecDepth 100000
theorem z1Y {w:World} {g:Nat} {l:List Int} {t:TypeId} (h:Has w g (z00 l).toArray t):w.rangeAt g 0 (z00 l):=fun j v hv=>by rw [Nat.zero_add,h.cell,List.getElem?_toArray];exact hv
end Go.Proofs.YtnmalbngdhjhjaaGreatDoor

namespace Go.Proofs.YtnmalbngdhjhjaaGreatDoor
open Go.RowKit
set_option maxRecDepth 100000
def CAT (M:Nat→Nat→List Int) (ss:List (Nat × Nat)):List Int:=ss.flatMap fun s=>M s.1 s.2
theorem zes {M:Nat→Nat→List Int} {ss:List (Nat × Nat)} {i h k:Nat} (hs:ss[i]?=some (h,k)):CAT M (ss.take (i+1))=CAT M (ss.take i) ++ M h k:=by
  rw [List.take_add_one,hs]
  simp [CAT]
end Go.Proofs.YtnmalbngdhjhjaaGreatDoor

namespace Go.Proofs.YtnmalbngdhjhjaaGreatDoor
open Go.RowKit
set_option maxRecDepth 100000
end Go.Proofs.YtnmalbngdhjhjaaGreatDoor

namespace Go.Proofs.YtnmalbngdhjhjaaGreatDoor
open Go.RowKit
set_option maxRecDepth 100000
end Go.Proofs.YtnmalbngdhjhjaaGreatDoor

namespace Go.Proofs.YtnmalbngdhjhjaaGreatDoor
open Go.RowKit
set_option maxRecDepth 100000
theorem z3q {fn:Func} {p q:Tmp} {ty:TypeId} (h:fn.results=#[.cell p ty,.tmp q]) (tmps:Array Value) (w:World) (g:Nat) (t:TypeId) (cs:Array Value) (fr:Nat × Nat) (k:Nat) (el:TypeId) (v:Value)
    (hp:tmps.getD p undef=.pointer (some ⟨g,0,none⟩)) (hv:tmps.getD q undef=v) (hg:w.heap[g]?=some (.cells cs t fr))
    (hu:Tryz.prog.underlying ty=some (.array k el)) (hi:(Tryz.prog.info? ty).map (·.size)=some cs.size):
    (results fn tmps).run Tryz.prog w=.ok (.tuple #[.agg cs,v]) w:=by
  have hp':tmps[p]?.getD undef=.pointer (some ⟨g,0,none⟩):=by simpa using hp
  have hv':tmps[q]?.getD undef=v:=by simpa using hv
  simp [results,h,hp',hv',asAddr,run_loadVar_row w g t ty cs fr (.array k el) hg hu rfl hi]
end Go.Proofs.YtnmalbngdhjhjaaGreatDoor
