/- Texts of ManyAccepts, one behind the other: PosForestMap, VerifyMap, ManyNext, StepLists, ManyMup. -/
import Derived.Maps.OwnSet
import Derived.DeepKeys4
import Derived.Deep.AppendLies
import Derived.Test.YtjkjlblongeljaaGreatDoorManyAcceptsP11
namespace Go.Proofs.YtjkjlblongeljaaGreatDoor
open Go.RowKit Go.Maps
set_option maxRecDepth 100000
theorem z5f:laidOutB Tryz.prog=true:=by kernel_rfl
theorem z9H:(90:TypeId)<Tryz.prog.types.size:=of_decide_eq_true (by kernel_rfl)
theorem zdK:(match Tryz.prog.underlying 90 with | some (.array _ _) | some (.struct _)=>true | _=>false)=true:=by rw [Tryz.underlying90]
theorem law:Keyed Tryz.prog 90:=Keyed.of_law (deep_law_laid z5f (m:=2) (by omega) z9H (by kernel_rfl) zdK)
def KL (h k:Nat):Lit:=.string (keyBytes [.int .u8 (h:Int),.int .u64 (k:Int)])
theorem z7P {h k:Nat} (hh:h<256) (hk:k<2 ^ 64):keyOf Tryz.prog 90 (SPOT h k)=some (KL h k):=by
  have w0:(Lit.int .u8 (h:Int)).wf=true:=WalkArith.wf_u8 (by omega)
  have w1:(Lit.int .u64 (k:Int)).wf=true:=WalkArith.wf_u64 (by omega)
  have c3:Tryz.prog.cellsOf 90=2:=by kernel_rfl
  have c1:Tryz.prog.cellsOf 5=1:=by kernel_rfl
  have c2:Tryz.prog.cellsOf 24=1:=by kernel_rfl
  have ht:Tryz.prog.keyType 90=true:=by kernel_rfl
  have hf:(SPOT h k).formed Tryz.prog 90=true:=by simp [Value.formed,Tryz.underlying90,c3]
  obtain ⟨m,hm⟩:∃ m,Tryz.prog.types.size=m+1:=⟨Tryz.prog.types.size - 1,(Nat.succ_pred_eq_of_pos (Nat.lt_of_le_of_lt (Nat.zero_le _) z9H)).symm⟩
  unfold keyOf
  simp only [Tryz.underlying90,ht,hf,hm]
  simp [Program.keyLits,Tryz.underlying90,Tryz.underlying5,Tryz.underlying24,c1,c2,c3,Value.cells,w0,w1,KL]
theorem zfP {h k h' k':Nat} (hh:h<256) (hk:k<2 ^ 64) (hh':h'<256) (hk':k'<2 ^ 64) (e:KL h k=KL h' k'):h=h'∧k=k':=by
  have h1:=z7P hh hk
  have h2:=z7P hh' hk'
  rw [← e] at h2
  have:=law.inj h1 h2
  simp at this
  omega
abbrev U64 (n:Nat):DataW Unit:=.lit (.int .u64 (n:Int))
def MapOk (D:DataW Unit) (m:Nat):Prop:=∀ h k,h<256→k<2 ^ 64→(Maps.has D (KL h k)=true↔Node h k∧PLC h k<m)∧(Node h k→PLC h k<m→D.atKey (KL h k) (U64 0)=U64 (PLC h k))
theorem MapOk.none:MapOk (.map []) 0:=fun h k _ _=>⟨⟨fun e=>by simp [Maps.has] at e,fun e=>by omega⟩,fun _ e=>by omega⟩
theorem Node.small {h k:Nat} (a:Node h k):h<256∧k<2 ^ 64:=⟨by have:=a.1;omega,by have:=a.index_lt;omega⟩
theorem MapOk.put {D:DataW Unit} {m h k:Nat} (hD:Maps.IsMap D) (hM:MapOk D m) (hN:Node h k) (hp:PLC h k=m):MapOk (D.put (KL h k) (U64 m)) (m+1):=by
  intro h' k' hh' hk'
  obtain ⟨hh,hk⟩:=hN.small
  have hkey:WideAt.IsKeyLit (KL h k):=law.key (z7P hh hk)
  by_cases e:KL h' k'=KL h k
  · obtain ⟨rfl,rfl⟩:=zfP hh' hk' hh hk e
    exact ⟨⟨fun _=>⟨hN,by omega⟩,fun _=>Maps.has_put_same hD hkey _⟩,fun _ _=>by rw [Maps.atKey_put_same hD hkey,hp]⟩
  · have hne:∀ _:Node h' k',PLC h' k'≠m:=fun hN' e2=>e (by obtain ⟨rfl,rfl⟩:=hN'.one hN (by omega);rfl)
    rw [Maps.has_put_other e,Maps.atKey_put_other e]
    obtain ⟨a,b⟩:=hM h' k' hh' hk'
    refine ⟨⟨fun h=>?_,fun h=>?_⟩,fun h1 h2=>b h1 (by have:=hne h1;omega)⟩
    · have:=a.1 h
      exact ⟨this.1,by omega⟩
    · exact a.2 ⟨h.1,by have:=hne h.1;omega⟩
def Placed (w:World) (b m:Nat):Prop:=∃ D:DataW Unit,w.ownsMap Tryz.prog 90 (plainElem Tryz.prog 24) b m D∧MapOk D m
theorem Placed.made (w:World):Placed (w.alloc (.map #[] 0)) w.heap.size 0:=⟨_,World.ownsMap_made w _ _ _,MapOk.none⟩
theorem Placed.kept {w w':World} {b m:Nat} {row:Option Nat} (h:Placed w b m) (hg:w.grownBy w' row) (hne:some b≠row):Placed w' b m:=let ⟨D,h1,h2⟩:=h; ⟨D,h1.kept hg hne,h2⟩
theorem Placed.lt {w:World} {b m:Nat} (h:Placed w b m):b<w.heap.size:=let ⟨_,h1,_⟩:=h;h1.lt
theorem Placed.below {w w':World} {b m:Nat} (h:Placed w b m) (hb:Below w.heap.size w w'):Placed w' b m:=by
  have hlt:=h.lt
  obtain ⟨D,⟨es,clock,h1,r⟩,h2⟩:=h
  exact ⟨D,⟨es,clock,(hb.block b hlt).trans h1,r⟩,h2⟩
theorem Placed.alloc {w:World} {b m:Nat} (h:Placed w b m) (o:Obj):Placed (w.alloc o) b m:=h.below ((Below.refl _ _).alloc (Nat.le_refl _) _)
theorem Placed.setCell {w:World} {b m:Nat} (h:Placed w b m) {a:Addr} (ha:b≠a.block) (u:Value):Placed (w.setCell a u) b m:=let ⟨D,h1,h2⟩:=h; ⟨D,h1.setCell ha u,h2⟩
end Go.Proofs.YtjkjlblongeljaaGreatDoor

namespace Go.Proofs.YtjkjlblongeljaaGreatDoor
open Go.RowKit Go.Maps
set_option maxRecDepth 100000
def RV (v:Value):Option (DataW Value × List MemPlace):=some (.held v,[])
theorem z0X (w:World):(zeroValue 35).run Tryz.prog w=.ok (.agg ZARR) w:=by kernel_rfl
def SMAP (w:World) (b n:Nat) (M:Nat→Nat→List Int):Prop:=∃ D:DataW Value,w.ownsMap Tryz.prog 90 RV b n D∧∀ h k,h<256→k<2 ^ 64→D.atKey (KL h k) (.held (.agg ZARR))=.held (.agg (z00 (M h k)).toArray)
theorem SMAP.made (w:World):SMAP (w.alloc (.map #[] 0)) w.heap.size 0 (fun _ _=>ZND):=⟨_,World.ownsMap_made w _ _ _,fun h k _ _=>by simp [DataW.atKey];rfl⟩
theorem SMAP.lt {w:World} {b n:Nat} {M:Nat→Nat→List Int} (h:SMAP w b n M):b<w.heap.size:=let ⟨_,h1,_⟩:=h;h1.lt
theorem SMAP.at {w w':World} {b n:Nat} {M:Nat→Nat→List Int} (h:SMAP w b n M) (hb:w'.heap[b]?=w.heap[b]?):SMAP w' b n M:=by
  obtain ⟨D,⟨es,clock,h1,r⟩,h2⟩:=h
  exact ⟨D,⟨es,clock,hb.trans h1,r⟩,h2⟩
theorem SMAP.below {w w':World} {b n:Nat} {M:Nat→Nat→List Int} (h:SMAP w b n M) (hb:Below w.heap.size w w'):SMAP w' b n M:=h.at (hb.block b h.lt)
end Go.Proofs.YtjkjlblongeljaaGreatDoor

namespace Go.Proofs.YtjkjlblongeljaaGreatDoor
open Go.RowKit
set_option maxRecDepth 100000
def BUT (bc:Nat) (w w':World):Prop:=(∀ q,q<w.heap.size→q≠bc→w'.heap[q]?=w.heap[q]?)∧Below bc w w'
theorem BUT.refl (bc:Nat) (w:World):BUT bc w w:=⟨fun _ _ _=>rfl,Below.refl _ _⟩
theorem BUT.trans {bc:Nat} {w w1 w2:World} (h:BUT bc w w1) (h':BUT bc w1 w2):BUT bc w w2:=
  ⟨fun q hq hne=>(h'.1 q (Nat.lt_of_lt_of_le hq h.2.size) hne).trans (h.1 q hq hne),h.2.trans h'.2⟩
theorem BUT.of_below {bc:Nat} {w w':World} (hb:Below w.heap.size w w') (hc:bc≤w.heap.size):BUT bc w w':=⟨fun q hq _=>hb.block q hq,hb.mono hc⟩
theorem Flat.but {bc:Nat} {w w':World} {a:Option Addr} {n:Nat} {l:List Int} (h:Flat w a n l) (hb:BUT bc w w') (ha:∀ x,a=some x→x.block≠bc):Flat w' a n l:=by
  refine ⟨h.1,fun h0=>?_,h.2.2⟩
  obtain ⟨b,o,e,hlt,hc⟩:=h.2.1 h0
  exact ⟨b,o,e,Nat.lt_of_lt_of_le hlt hb.2.size,fun j hj=>(World.cell?_of_block (w:=w) (by exact hb.1 b hlt (ha _ e))).trans (hc j hj)⟩
theorem z1T {fn:Func} {p:Tmp} {ty:TypeId} (h:fn.results=#[.cell p ty]) (tmps:Array Value) (w:World) (g:Nat) (t:TypeId) (cs:Array Value) (fr:Nat × Nat) (k:Nat) (el:TypeId)
    (hp:tmps.getD p undef=.pointer (some ⟨g,0,none⟩)) (hg:w.heap[g]?=some (.cells cs t fr))
    (hu:Tryz.prog.underlying ty=some (.array k el)) (hi:(Tryz.prog.info? ty).map (·.size)=some cs.size):
    (results fn tmps).run Tryz.prog w=.ok (.agg cs) w:=by
  have hp':tmps[p]?.getD undef=.pointer (some ⟨g,0,none⟩):=by simpa using hp
  simp [results,h,hp',asAddr,run_loadVar_row w g t ty cs fr (.array k el) hg hu rfl hi]
theorem zc0 (b off n c:Nat) (hk:0<n) (hc:n≤c) (w:World):(Instr.slice 22 (.slice (some ⟨b,off,none⟩) n c) (some (.int .i64 1)) none none).run Tryz.prog w=.ok (.slice (SLA (some ⟨b,off,none⟩) c 1) (n - 1) (c - 1)) w:=z4j b off n c 1 hk hc w
set_option maxHeartbeats 4000000 in
theorem z9I (bc i b o n c:Nat) (l:List Int) (cs:Array Value) (w:World) (hH:Has w bc cs 169) (hi:cs[i]?=some (.slice (some ⟨b,o,none⟩) n c)) (hn:0<n) (hc:n≤c) (hb:b≠bc) (hF:Flat w (some ⟨b,o,none⟩) n l):
    Calls Tryz.prog 147 #[.pointer (some ⟨bc,i,none⟩)] w fun e w'=>e=.returned (.agg (z00 (HSH l 0)).toArray)∧Has w' bc (cs.setIfInBounds i (.slice (SLA (some ⟨b,o,none⟩) c 1) (n - 1) (c - 1))) 169∧BUT bc w w':=by
  have y32:=z0w hF.1 hn
  have hbl:=hH.lt
  obtain ⟨W0,hW0⟩:∃ W0,w.alloc (.cells ZARR 35)=W0:=⟨_,rfl⟩
  obtain ⟨b2,hb2⟩:∃ b2,w.heap.size=b2:=⟨_,rfl⟩
  have R0:Aside (Below w.heap.size w W0∧Has W0 b2 (z00 ZND).toArray 35∧Has W0 bc cs 169∧bc<b2∧w.heap.size=b2):=by
    rw [← hW0,← hb2]
    exact ⟨(Below.refl _ _).alloc (Nat.le_refl _) _,by rw [z2o];exact Has.new _ _ _,hH.alloc _,hbl,rfl⟩
  have hlt:(0:Int)<(n:Int):=by omega
  have hat:W0.rangeAt b (o+0*32) (z00 (HSH l 0)):=(hF.below R0.out.1).at hn
  have x0:W0.cell? ⟨bc,i,none⟩=some (.slice (some ⟨b,o,none⟩) n c):=(R0.out.2.2.1.cell i).trans hi
  have hsl:Aside (∀ w,(Instr.slice 22 (.slice (some ⟨b,o,none⟩) n c) (some (.int .i64 1)) none none).run Tryz.prog w=.ok (.slice (SLA (some ⟨b,o,none⟩) c 1) (n - 1) (c - 1)) w):=zc0 b o n c hn hc
  have B:Aside (b≠bc):=hb
  have HI:Aside (cs[i]?=some (.slice (some ⟨b,o,none⟩) n c)):=hi
  clear hF hn hc hH hbl hb hi
  generalize HSH l 0=Y at *
  generalize SLA (some ⟨b,o,none⟩) c 1=a' at *
  generalize n - 1=n' at *
  generalize c - 1=c' at *
  go_enter Tryz.func147,Tryz.ntmps147
  go_upto_region 2 with (first
    | (refine wpList_load_mid rfl 35 (.tmp 7) rfl b (o+0*32) rfl (z00 Y) _ hat Tryz.underlying35 rfl (z0l y32) ?_)
    | (refine wpList_store_row rfl 35 (.tmp 3) (.tmp 8) rfl _ _ rfl rfl 35 _ (Has.new W0 _ _) (z0d y32) (by simp [z00,y32]) (z0m Y) ?_;rw [World.setRow_alloc_new]))
  clear hW0 hat x0 hlt
  have R1:Aside (Below w.heap.size w (W0.alloc (.cells (z00 Y).toArray 35))∧Has (W0.alloc (.cells (z00 Y).toArray 35)) b2 (z00 ZND).toArray 35∧Has (W0.alloc (.cells (z00 Y).toArray 35)) W0.heap.size (z00 Y).toArray 35∧Has (W0.alloc (.cells (z00 Y).toArray 35)) bc cs 169∧b2<W0.heap.size):=⟨R0.out.1.alloc R0.out.1.size _,R0.out.2.1.alloc _,Has.new _ _ _,R0.out.2.2.1.alloc _,R0.out.2.1.lt⟩
  generalize W0.alloc (.cells (z00 Y).toArray 35)=W1 at *
  generalize W0.heap.size=b3 at *
  have x1:W1.cell? ⟨bc,i,none⟩=some (.slice (some ⟨b,o,none⟩) n c):=(R1.out.2.2.2.1.cell i).trans HI.out
  have f1:=R1.out.2.2.2.1.frozen i
  have hs2:=hsl.out
  obtain ⟨V,hV⟩:∃ V,Value.slice a' n' c'=V:=⟨_,rfl⟩
  have H3:Has (W1.setCell ⟨bc,i,none⟩ V) b3 (z00 Y).toArray 35:=R1.out.2.2.1.other (by show b3≠bc;have:=R1.out.2.2.2.2;have:=R0.out.2.2.2.1;omega) _
  have H2:Has (W1.setCell ⟨bc,i,none⟩ V) b2 (z00 ZND).toArray 35:=R1.out.2.1.other (by show b2≠bc;have:=R0.out.2.2.2.1;omega) _
  have FN:Aside (Has ((W1.setCell ⟨bc,i,none⟩ V).setRow b2 (z00 Y).toArray) bc (cs.setIfInBounds i V) 169∧BUT bc w ((W1.setCell ⟨bc,i,none⟩ V).setRow b2 (z00 Y).toArray)):=by
    have h1:=R0.out.2.2.2
    refine ⟨(R1.out.2.2.2.1.set i V).row_other (by omega) _,fun q hq hne=>?_,?_⟩
    · rw [setRow_other _ b2 q _ (by omega),Below.heap_setCell _ _ _ _ (by exact hne)]
      exact R1.out.1.block q hq
    · exact z06 ((R1.out.1.mono (by show bc≤_;omega)).setCell (p:=⟨bc,i,none⟩) (Nat.le_refl _) _) (by show bc≤_;omega) _
  subst hV
  clear hsl R0 R1 B HI
  go_wp2_with (first
    | (refine wpList_load_row rfl 35 (.tmp 3) rfl b3 rfl 35 (z00 Y).toArray (0,0) _ H3 Tryz.underlying35 rfl (z0d y32) ?_)
    | (refine wpList_store_row rfl 35 (.tmp 2) (.tmp 15) rfl _ _ rfl rfl 35 _ H2 (z0d y32) (by simp [z00,y32];rfl) (z0m Y) ?_))
  refine bodyPost_ret (v:=.agg (z00 Y).toArray) (z1T rfl _ _ b2 35 _ (0,0) _ _ rfl (Has.row H2 _) Tryz.underlying35 (z0d y32)) rfl ⟨rfl,FN.out⟩
end Go.Proofs.YtjkjlblongeljaaGreatDoor

namespace Go.Proofs.YtjkjlblongeljaaGreatDoor
open Go.RowKit
set_option maxRecDepth 100000
theorem zeX {P:Program} {o:Oper} {a:Act} {w:World} {K K':Act→World→Prop} {Q Q':Exit→Act→World→Prop} (h:∀ a w,K a w→K' a w) (hq:∀ c a w,Q (.panic c) a w→Q' (.panic c) a w) (hl:LetsOut Q→LetsOut Q') (hh:o.wp P a w K Q):o.wp P a w K' Q':=by
  unfold Oper.wp at *
  generalize (execOp a.eval o).run P w=r at *
  cases r with
  | ok n w'=>
    cases n <;> simp only [Oper.upon] at hh ⊢ <;>
      first
        | exact h _ _ hh
        | exact Calls.mono hh (fun e w'' he=>by cases e <;> first | exact h _ _ he | exact hq _ _ _ he | exact hl he)
        | exact Rows.mono hh (fun _ _ he=>h _ _ he)
  | halt x w'=>cases x <;> simp only [Oper.upon] at hh ⊢ <;> first | exact hq _ _ _ hh | exact hh
theorem z32 {P:Program} {ops:Array Oper} {o:Oper} {a:Act} {w:World} {K:Act→World→Prop} {Q:Exit→Act→World→Prop} {E:Prop} (hw:Region.wanted o (yielded ops a.tmps)=true)
    (h:wpList P ops (fun e a w=>e=Exit.normal∧K a w) [o] a w):if Region.wanted o (yielded ops a.tmps)=true then Oper.wp P o a w K Q else E:=by
  rw [if_pos hw]
  unfold wpList at h
  rw [if_pos hw] at h
  rcases h with h | ⟨_,a',w',h',_⟩
  · exact zeX (fun a w h=>by unfold wpList at h;exact h.2) (fun c a w h=>by cases h.1) (fun h=>by obtain ⟨_,_,h,_⟩:=h;cases h) h
  · cases h'
theorem z26 {ops:Array Oper} {o:Oper} {a:Act} {w w':World} {K:Act→World→Prop} {Q:Exit→Act→World→Prop} {E:Prop} {v:Value} (hw:Region.wanted o (yielded ops a.tmps)=true)
    (hrun:(execOp a.eval o).run Tryz.prog w=.ok (.value v) w') (h:K (a.put o.dst v) w'):if Region.wanted o (yielded ops a.tmps)=true then Oper.wp Tryz.prog o a w K Q else E:=by
  rw [if_pos hw]
  unfold Oper.wp
  rw [hrun]
  exact h
end Go.Proofs.YtjkjlblongeljaaGreatDoor

namespace Go.Proofs.YtjkjlblongeljaaGreatDoor
open Go.RowKit
set_option maxRecDepth 100000
def MSTP (A B Y:List Int):Array Value:=(z00 A ++ z00 B ++ z00 Y).toArray
theorem z6a (l:List Int) (h:l.length=32):∃ f:Nat→Int,l=(List.range 32).map f:=by
  refine ⟨fun i=>l.getD i 0,List.ext_getElem (by simp [h]) fun i h1 h2=>?_⟩
  simp [List.getD_eq_getElem?_getD,List.getElem?_eq_getElem h1]
theorem z4R (A B Y:List Int) (lA:A.length=32) (lB:B.length=32) (lY:Y.length=32):Tryz.prog.built 109 [(0,.agg (z00 A).toArray),(1,.agg (z00 B).toArray),(2,.agg (z00 Y).toArray)]=some (MSTP A B Y):=by
  obtain ⟨f,rfl⟩:=z6a A lA
  obtain ⟨g,rfl⟩:=z6a B lB
  obtain ⟨h,rfl⟩:=z6a Y lY
  kernel_rfl
theorem z6I {A B Y:List Int} (lA:A.length=32) (lB:B.length=32) (lY:Y.length=32):(MSTP A B Y).size=96:=by simp [MSTP,z00,lA,lB,lY]
theorem z5F {A B Y:List Int} (lA:A.length=32) (lB:B.length=32) (lY:Y.length=32):(Tryz.prog.info? 109).map (·.size)=some (z00 A ++ z00 B ++ z00 Y).length:=by
  have e:(z00 A ++ z00 B ++ z00 Y).length=96:=by simp [z00,lA,lB,lY]
  have h:(Tryz.prog.info? 109).map (·.size)=some 96:=by kernel_rfl
  rw [e]
  exact h
theorem z4S {s:Sem Value} {w w':World} {v:Value} (h:s.run Tryz.prog w=.ok v w'):(do pure (Next.value (← s)):Sem Next).run Tryz.prog w=.ok (.value v) w':=by
  simp [h]
theorem zaF {s:Sem Unit} {w w':World} (h:s.run Tryz.prog w=.ok () w'):(do s;pure Next.skip:Sem Next).run Tryz.prog w=.ok .skip w':=by
  simp [h]
theorem z4T {a:Act} (w:World) (o:Oper) (ho:o.op=.alloc 109):(execOp a.eval o).run Tryz.prog w=.ok (.value (.pointer (some ⟨w.heap.size,0,none⟩))) (w.alloc (.cells (MSTP ZND ZND ZND) 109)):=by
  simp [execOp,ho,go_sem]
  rfl
theorem z8L {w:World} {g:Nat} {A B Y:List Int} (h:Has w g (MSTP ZND ZND ZND) 109) (lA:A.length=32) (lB:B.length=32) (lY:Y.length=32):(Instr.storeAt 109 (.pointer (some ⟨g,0,none⟩)) (.agg (MSTP A B Y))).run Tryz.prog w=.ok () (w.setRow g (MSTP A B Y)):=by
  simp only [Instr.storeAt,Instr.sureAddr,Sem.run_bind,Sem.run_pure,Result.andThen]
  exact run_storeVar_row w g 109 109 (MSTP ZND ZND ZND) (MSTP A B Y) h (by rw [z6I lA lB lY];exact (z5F lA lB lY).trans (by simp [z00,lA,lB,lY])) (by rw [z6I lA lB lY];rfl) (by
    rw [Array.all_eq_true_iff_forall_mem]
    intro v hv
    have hv:v∈z00 A ++ z00 B ++ z00 Y:=by simpa [MSTP] using hv
    rcases List.mem_append.1 hv with hv | hv
    · rcases List.mem_append.1 hv with hv | hv
      · exact z0O A v hv
      · exact z0O B v hv
    · exact z0O Y v hv)
end Go.Proofs.YtjkjlblongeljaaGreatDoor
