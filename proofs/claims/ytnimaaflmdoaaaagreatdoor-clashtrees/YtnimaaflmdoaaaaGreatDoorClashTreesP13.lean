/- ClashTrees: part 13. -/
import Derived.Deep.RegionLaw
import Derived.Test.YtnimaaflmdoaaaaGreatDoorClashTreesP12
set_option maxHeartbeats 2000000
namespace Go.Proofs.YtnimaaflmdoaaaaGreatDoor
open Go.RowKit Go.Maps
set_option maxRecDepth 100000
theorem zaz:(23:TypeId)<Tryz.prog.types.size:=of_decide_eq_true (by kernel_rfl)
theorem zfc:(match Tryz.prog.underlying 23 with | some (.array _ _) | some (.struct _)=>true | _=>false)=true:=by rw [Tryz.underlying23]
theorem lawH:Keyed Tryz.prog 23:=Keyed.of_law (deep_law_laid z46 (m:=2) (by omega) zaz (by kernel_rfl) zfc)
def HKL (h:List Int):Lit:=.string (keyBytes ((List.range 32).map fun i=>[Lit.int .u8 (h.getD i 0)]).flatten)
theorem z7s {α β:Type} (f:α->Option β) (g:α->β):∀ l:List α,(∀ x∈l,f x=some (g x))->l.mapM f=some (l.map g)
 | [],_=>rfl
 | x :: l,h=>by
   rw [List.mapM_cons,h x (List.mem_cons_self ..),z7s f g l (fun y hy=>h y (List.mem_cons_of_mem _ hy))];rfl
theorem z3V {h:List Int} (hh:IsH h):keyOf Tryz.prog 23 (.agg (z00 h).toArray)=some (HKL h):=by
 have c3:Tryz.prog.cellsOf 23=32:=by kernel_rfl
 have c1:Tryz.prog.cellsOf 5=1:=by kernel_rfl
 have ht:Tryz.prog.keyType 23=true:=by kernel_rfl
 have hl:(z00 h).length=32:=by simp [z00,hh.1]
 have hf:(Value.agg (z00 h).toArray).formed Tryz.prog 23=true:=by simp [Value.formed,Tryz.underlying23,c3,hl]
 obtain ⟨m,hm⟩:∃ m,Tryz.prog.types.size=m+1:=⟨Tryz.prog.types.size - 1,(Nat.succ_pred_eq_of_pos (Nat.lt_of_le_of_lt (Nat.zero_le _) zaz)).symm⟩
 unfold keyOf;simp only [Tryz.underlying23,ht,hf,hm];simp only [Bool.and_self,if_true,Program.keyLits,Tryz.underlying23,Value.cells,c1,c3,hl];rw [z7s _ (fun i=>[Lit.int .u8 (h.getD i 0)]) (List.range 32)]
 ·rfl
 ·intro i hi
  have hi:i<32:=List.mem_range.1 hi
  have e:((z00 h).drop (i*1)).take 1=[.int .u8 (h.getD i 0)]:=by
   rw [Nat.mul_one];apply List.ext_getElem?;intro j;rw [List.getElem?_take];cases j with
   | zero=>
     simp only [Nat.zero_lt_one,if_true,List.getElem?_drop,Nat.add_zero,List.getElem?_cons_zero];unfold z00;rw [List.getElem?_map,List.getD_eq_getElem?_getD,List.getElem?_eq_getElem (by rw [hh.1];exact hi)];rfl
   | succ j=>simp
  have hr:0<=h.getD i 0/\h.getD i 0<=255:=by
   rw [List.getD_eq_getElem?_getD,List.getElem?_eq_getElem (by rw [hh.1];exact hi)];exact hh.2 _ (List.getElem_mem _)
  have w0:(Lit.int .u8 (h.getD i 0)).wf=true:=WalkArith.wf_u8 (by omega);rw [e];simp only [Tryz.underlying5];rw [if_pos ⟨trivial,w0⟩]
theorem zdo {h k:List Int} (e:z00 h=z00 k):h=k:=by
 unfold z00 at e;exact List.map_inj_right (f:=Value.int .u8) (fun x y hxy=>by simpa using hxy) |>.1 e
theorem zaA {h k:List Int} (hh:IsH h) (hk:IsH k) (e:HKL h=HKL k):h=k:=by
 have h1:=z3V hh;have h2:=z3V hk;rw [<-e] at h2;have:=lawH.inj h1 h2;simp only [Value.agg.injEq] at this;exact zdo (by simpa using this)
def OWNT (w:World) (base g c:Nat) (t:List Nat):Prop:=w.ownsRow base 5 1 (.slice (some ⟨g,0,none⟩) t.length c) t.length (HX.z00 (HX.INTS t))/\HX.Small8 t/\0<t.length/\t.length<=200
theorem OWNT.at {w w':World} {base g c:Nat} {t:List Nat} (h:OWNT w base g c t) (hg:w'.heap[g]?=w.heap[g]?):OWNT w' base g c t:=by
 refine ⟨⟨h.1.1,h.1.2.imp id ?_⟩,h.2⟩;rintro ⟨g2,c2,cur,e1,e2,e3,e4⟩;have:g2=g:=by cases e1;rfl
 subst this;exact ⟨g2,c2,cur,e1,e2,hg.trans e3,e4⟩
theorem OWNT.lt {w:World} {base g c:Nat} {t:List Nat} (h:OWNT w base g c t):base<=g/\g<w.heap.size:=h.1.lt g rfl
theorem OWNT.cap {w:World} {base g c:Nat} {t:List Nat} (h:OWNT w base g c t):t.length<=c:=by
 rcases h.1.2 with ⟨e,_⟩ | ⟨g2,cap,cur,e,_,_,h2,_⟩
 ·cases e
 ·cases e;exact h2
theorem OWNT.text {w:World} {base g c:Nat} {t:List Nat} (h:OWNT w base g c t):HX.Text w (some ⟨g,0,none⟩) t.length t:=
 ⟨rfl,fun _=>⟨g,0,rfl,h.lt.2,fun i hi=>by
  rw [Nat.zero_add,h.1.cellAt i (by omega)];simp [HX.z00,HX.INTS,List.getD_eq_getElem?_getD,hi]⟩,h.2.1⟩
structure STEPM (b g:Nat) (w w':World):Prop where
 os:w'.os=w.os
 tape:w'.tape=w.tape
 output:w'.output=w.output
 size:w.heap.size<=w'.heap.size
 block:∀ k,k<w.heap.size->k≠b->k≠g->w'.heap[k]?=w.heap[k]?
theorem STEPM.refl (b g:Nat) (w:World):STEPM b g w w:=⟨rfl,rfl,rfl,Nat.le_refl _,fun _ _ _ _=>rfl⟩
theorem STEPM.trans {b g:Nat} {w w' w'':World} (h:STEPM b g w w') (k:STEPM b g w' w''):STEPM b g w w'':=⟨k.os.trans h.os,k.tape.trans h.tape,k.output.trans h.output,Nat.le_trans h.size k.size,fun i h1 h2 h3=>(k.block i (Nat.lt_of_lt_of_le h1 h.size) h2 h3).trans (h.block i h1 h2 h3)⟩
theorem STEPM.of_below {b g:Nat} {w w':World} (h:Below w.heap.size w w'):STEPM b g w w':=⟨h.os,h.tape,h.output,h.size,fun k h1 _ _=>h.block k h1⟩
theorem STEPM.below {b g base:Nat} {w w':World} (h:STEPM b g w w') (h0:base<=w.heap.size) (h1:base<=b) (h2:base<=g):Below base w w':=⟨h.os,h.tape,h.output,h.size,fun k hk=>h.block k (by omega) (by omega) (by omega)⟩
theorem STEPM.grown {b g:Nat} {w w':World} (h:w.grownBy w' (some g)):STEPM b g w w':=⟨h.os,h.tape,h.output,h.size,fun k h1 _ h3=>h.block k h1 (fun e=>h3 (by simpa using e))⟩
theorem STEPM.setRow {b g:Nat} (w:World) (cs:Array Value):STEPM b g w (w.setRow b cs):=⟨rfl,rfl,rfl,by simp,fun k _ h2 _=>setRow_other w b k cs h2⟩
def FST (d:Int) (T:List (List Nat)) (h:List Int):Option (List Nat):=T.reverse.find? fun s=>decide (HSHT d s=h)
def CLS (d:Int):List (List Nat)->Option (List Nat × List Nat)
 | []=>none
 | t :: T=>match FST d T (HSHT d t) with
   | none=>CLS d T
   | some s=>if s=t then CLS d T else some (s,t)
theorem z4o (d:Int) (t:List Nat) (T:List (List Nat)) (h:List Int):FST d (t :: T) h=(FST d T h).or (if HSHT d t=h then some t else none):=by
 unfold FST;rw [List.reverse_cons,List.find?_append];congr 1
 by_cases e:HSHT d t=h <;> simp [e]
theorem z5M {d:Int} {T:List (List Nat)} {h:List Int} {s:List Nat} (e:FST d T h=some s):s∈T/\HSHT d s=h:=by
 unfold FST at e;exact ⟨List.mem_reverse.1 (List.mem_of_find?_eq_some e),by simpa using List.find?_some e⟩
theorem zfd {d:Int} {T:List (List Nat)} {h:List Int} (e:FST d T h=none):∀ s∈T,HSHT d s≠h:=fun s hs=>by
 unfold FST at e;simpa using List.find?_eq_none.1 e s (List.mem_reverse.2 hs)
theorem z8M {d:Int}:∀ {T:List (List Nat)} {s t:List Nat},CLS d T=some (s,t)->s≠t/\HSHT d s=HSHT d t/\s∈T/\t∈T
 | [],s,t,e=>by simp [CLS] at e
 | x :: T,s,t,e=>by
   have rcc:CLS d T=some (s,t)->s≠t/\HSHT d s=HSHT d t/\s∈x :: T/\t∈x :: T:=fun e=>by
     obtain ⟨a,b,c1,c2⟩:=z8M e;exact ⟨a,b,List.mem_cons_of_mem _ c1,List.mem_cons_of_mem _ c2⟩
   rw [CLS] at e;cases hf:FST d T (HSHT d x) with
   | none=>rw [hf] at e;exact rcc e
   | some y=>
     rw [hf] at e;dsimp only at e;by_cases hy:y=x
     ·rw [if_pos hy] at e;exact rcc e
     ·rw [if_neg hy] at e
      simp only [Option.some.injEq,Prod.mk.injEq] at e;obtain ⟨rfl,rfl⟩:=e;exact ⟨hy,(z5M hf).2,List.mem_cons_of_mem _ (z5M hf).1,List.mem_cons_self ..⟩
theorem INJ.new {d:Int} {T:List (List Nat)} {t:List Nat} (h:INJ d T) (hn:∀ s∈T,HSHT d s≠HSHT d t):INJ d (t :: T):=by
 intro a ha b hb e;rcases List.mem_cons.1 ha with ea | ha1
 ·rcases List.mem_cons.1 hb with eb | hb1
  ·rw [ea,eb]
  ·rw [ea] at e
   exact absurd e.symm (hn b hb1)
 ·rcases List.mem_cons.1 hb with eb | hb1
  ·rw [eb] at e
   exact absurd e (hn a ha1)
  ·exact h a ha1 b hb1 e
theorem INJ.again {d:Int} {T:List (List Nat)} {t:List Nat} (h:INJ d T) (ht:t∈T):INJ d (t :: T):=by
 have sub:∀ a∈t :: T,a∈T:=fun a ha=>by
  rcases List.mem_cons.1 ha with rfl | ha
  ·exact ht
  ·exact ha
 exact fun a ha b hb e=>h a (sub a ha) b (sub b hb) e
theorem z5N {d:Int}:∀ {T:List (List Nat)},CLS d T=none->INJ d T
 | [],_=>fun _ h=>by simp at h
 | x :: T,e=>by
   rw [CLS] at e;cases hf:FST d T (HSHT d x) with
   | none=>rw [hf] at e;exact (z5N e).new (zfd hf)
   | some y=>
     rw [hf] at e;dsimp only at e;by_cases hy:y=x
     ·rw [if_pos hy] at e;exact (z5N e).again (hy ▸ (z5M hf).1)
     ·rw [if_neg hy] at e;cases e
def TOLD (w:World) (base top:Nat) (ok:Nat->Prop) (b g:Nat) (A B:Value) (s t:List Nat):Prop:=∃ gA cA gB cB,A=.slice (some ⟨gA,0,none⟩) s.length cA/\B=.slice (some ⟨gB,0,none⟩) t.length cB/\OWNT w base gA cA s/\OWNT w base gB cB t/\gA≠gB/\(gA<top/\ok gA)/\(gB<top/\ok gB)/\gA≠b/\gA≠g/\gB≠b/\gB≠g
theorem TOLD.at {w w':World} {base top b g:Nat} {ok:Nat->Prop} {A B:Value} {s t:List Nat} (h:TOLD w base top ok b g A B s t) {top':Nat} (ht:top<=top') (hk:∀ k,k<top->k≠b->k≠g->w'.heap[k]?=w.heap[k]?):TOLD w' base top' ok b g A B s t:=by
 obtain ⟨gA,cA,gB,cB,e1,e2,o1,o2,n1,l1,l2,m1,m2,m3,m4⟩:=h;exact ⟨gA,cA,gB,cB,e1,e2,o1.at (hk _ l1.1 m1 m2),o2.at (hk _ l2.1 m3 m4),n1,⟨by omega,l1.2⟩,⟨by omega,l2.2⟩,m1,m2,m3,m4⟩
structure MET (w:World) (base top:Nat) (ok:Nat->Prop) (b g:Nat) (d:Int) (T:List (List Nat)):Prop where
 hb:base<=b/\b<top
 hg:base<=g/\g<top
 ne:b≠g
 htop:top<=w.heap.size
 blk:∃ a1 n1 c1 a2 n2 c2,Has w b #[.int .i64 d,.map (some g),.slice a1 n1 c1,.slice a2 n2 c2,.bool (CLS d T).isSome] 66/\∀ s t,CLS d T=some (s,t)->TOLD w base top ok b g (.slice a1 n1 c1) (.slice a2 n2 c2) s t
 map:∃ D:DataW Value,w.ownsMap Tryz.prog 23 RV g T.length D/\(∀ h,IsH h->FST d T h=none->Maps.has D (HKL h)=false)/\∀ h t,IsH h->FST d T h=some t->Maps.has D (HKL h)=true/\∃ gt c,D.atKey (HKL h) (.held (.slice none 0 0))=.held (.slice (some ⟨gt,0,none⟩) t.length c)/\OWNT w base gt c t/\(gt<top/\ok gt)/\gt≠b/\gt≠g
theorem OWNT.cells {w:World} {base g c:Nat} {t:List Nat} (h:OWNT w base g c t):∃ o:Obj,w.heap[g]?=some o/\o.isCells=true:=by
 rcases h.1.2 with ⟨e,_⟩ | ⟨g2,cap,cur,e,_,e3,_⟩
 ·cases e
 ·cases e;exact ⟨_,e3,rfl⟩
theorem MET.keepc {w w':World} {base top b g:Nat} {ok:Nat->Prop} {d:Int} {T:List (List Nat)} (h:MET w base top ok b g d T) (hk:∀ k,k<top->(k=b\/k=g\/ok k/\∃ o:Obj,w.heap[k]?=some o/\o.isCells=true)->w'.heap[k]?=w.heap[k]?) {top':Nat} (ht:top<=top') (hs:top'<=w'.heap.size):MET w' base top' ok b g d T:=by
 obtain ⟨a1,n1,c1,a2,n2,c2,h1,h2⟩:=h.blk;obtain ⟨D,m1,m2,m3⟩:=h.map;refine ⟨⟨h.hb.1,by have:=h.hb.2;omega⟩,⟨h.hg.1,by have:=h.hg.2;omega⟩,h.ne,hs,⟨a1,n1,c1,a2,n2,c2,(hk b h.hb.2 (.inl rfl)).trans h1,fun s t e=>?_⟩,D,?_,m2,fun x t hx e=>?_⟩
 ·obtain ⟨gA,cA,gB,cB,e1,e2,o1,o2,n1,l1,l2,m1,m2,m3,m4⟩:=h2 s t e
  exact ⟨gA,cA,gB,cB,e1,e2,o1.at (hk _ l1.1 (.inr (.inr ⟨l1.2,o1.cells⟩))),o2.at (hk _ l2.1 (.inr (.inr ⟨l2.2,o2.cells⟩))),n1,⟨by omega,l1.2⟩,⟨by omega,l2.2⟩,m1,m2,m3,m4⟩
 ·obtain ⟨es,clock,a1,r⟩:=m1
  exact ⟨es,clock,(hk g h.hg.2 (.inr (.inl rfl))).trans a1,r⟩
 ·obtain ⟨a0,gt,c,a3,a4,a5,a6,a7⟩:=m3 x t hx e
  exact ⟨a0,gt,c,a3,a4.at (hk _ a5.1 (.inr (.inr ⟨a5.2,a4.cells⟩))),⟨by omega,a5.2⟩,a6,a7⟩
theorem MET.sub {w:World} {base top b g:Nat} {ok ok':Nat->Prop} {d:Int} {T:List (List Nat)} (h:MET w base top ok b g d T) (hk:∀ k,k<top->ok k->ok' k):MET w base top ok' b g d T:=by
 obtain ⟨a1,n1,c1,a2,n2,c2,h1,h2⟩:=h.blk;obtain ⟨D,m1,m2,m3⟩:=h.map;refine ⟨h.hb,h.hg,h.ne,h.htop,⟨a1,n1,c1,a2,n2,c2,h1,fun s t e=>?_⟩,D,m1,m2,fun x t hx e=>?_⟩
 ·obtain ⟨gA,cA,gB,cB,e1,e2,o1,o2,n1,l1,l2,r⟩:=h2 s t e
  exact ⟨gA,cA,gB,cB,e1,e2,o1,o2,n1,⟨l1.1,hk _ l1.1 l1.2⟩,⟨l2.1,hk _ l2.1 l2.2⟩,r⟩
 ·obtain ⟨a0,gt,c,a3,a4,a5,r⟩:=m3 x t hx e
  exact ⟨a0,gt,c,a3,a4,⟨a5.1,hk _ a5.1 a5.2⟩,r⟩
theorem MET.keep {w w':World} {base top b g:Nat} {ok:Nat->Prop} {d:Int} {T:List (List Nat)} (h:MET w base top ok b g d T) (hk:∀ k,k<top->w'.heap[k]?=w.heap[k]?) {top':Nat} (ht:top<=top') (hs:top'<=w'.heap.size):MET w' base top' ok b g d T:=h.keepc (fun k a _=>hk k a) ht hs
theorem MET.below {w w':World} {base top b g:Nat} {ok:Nat->Prop} {d:Int} {T:List (List Nat)} (h:MET w base top ok b g d T) (hb:Below w.heap.size w w'):MET w' base top ok b g d T:=h.keep (fun k hk=>hb.block k (Nat.lt_of_lt_of_le hk h.htop)) (Nat.le_refl _) (Nat.le_trans h.htop hb.size)
theorem zfe (w:World):(zeroValue 25).run Tryz.prog w=.ok (.slice none 0 0) w:=by kernel_rfl
theorem MET.look {w:World} {base top b g:Nat} {ok:Nat->Prop} {d:Int} {T:List (List Nat)} (h:MET w base top ok b g d T) {x:List Int} (hx:IsH x):
   (∃ gt c t,FST d T x=some t/\OWNT w base gt c t/\(gt<top/\ok gt)/\gt≠b/\gt≠g/\(Instr.lookup 64 (.map (some g)) (.agg (z00 x).toArray) true).run Tryz.prog w=.ok (.tuple #[.slice (some ⟨gt,0,none⟩) t.length c,.bool true]) w)\/
   (FST d T x=none/\∃ v,(Instr.lookup 64 (.map (some g)) (.agg (z00 x).toArray) true).run Tryz.prog w=.ok (.tuple #[v,.bool false]) w):=by
 obtain ⟨D,m1,m2,m3⟩:=h.map;obtain ⟨v,ps,r1,r2⟩:=m1.look_ok lawH Tryz.underlying64 (zfe w) (show RV (.slice none 0 0)=some (.held (.slice none 0 0),[]) from rfl) (z3V hx);cases e:FST d T x with
 | some t=>
   obtain ⟨a0,gt,c,a3,a4,a5,a6,a7⟩:=m3 x t hx e;refine .inl ⟨gt,c,t,rfl,a4,a5,a6,a7,?_⟩;rw [a3] at r2;simp only [RV,Option.some.injEq,Prod.mk.injEq,DataW.held.injEq] at r2;rw [r1,a0,r2.1]
 | none=>
   refine .inr ⟨rfl,v,?_⟩;rw [r1,m2 x hx e]
theorem MET.store {w:World} {base top b g:Nat} {ok:Nat->Prop} {d:Int} {T:List (List Nat)} (h:MET w base top ok b g d T) (hT:T.length<=100000) {gt c:Nat} {t:List Nat} (ht:OWNT w base gt c t) (htop:top<=gt) (hok:ok gt) (hn:FST d T (HSHT d t)=none) {top':Nat} (hgt':gt<top') (hs':top'<=w.heap.size):∃ w',(Instr.mapUpdate 64 (.map (some g)) (.agg (z00 (HSHT d t)).toArray) (.slice (some ⟨gt,0,none⟩) t.length c)).run Tryz.prog w=.ok () w'/\MET w' base top' ok b g d (t :: T)/\STEPM b g w w'/\∀ k,k<w.heap.size->k≠g->w'.heap[k]?=w.heap[k]?:=by
 obtain ⟨a1,n1,c1,a2,n2,c2,h1,h2⟩:=h.blk;obtain ⟨D,m1,m2,m3⟩:=h.map;obtain ⟨w',r1,r2,r3⟩:=m1.update lawH Tryz.underlying64 (by unfold maxLen;omega) (z3V (z3U d t)) (show RV (.slice (some ⟨gt,0,none⟩) t.length c)=some (.held (.slice (some ⟨gt,0,none⟩) t.length c),[]) from rfl);have hgt:=ht.lt;have hk:∀ k,k<w.heap.size->k≠g->w'.heap[k]?=w.heap[k]?:=fun k hk hne=>r3.block k hk (fun e=>hne (by simpa using e));have hsz:=r3.size;have htp:=h.htop;have b1:=h.hb;have g1:=h.hg;have hkey:WideAt.IsKeyLit (HKL (HSHT d t)):=lawH.key (z3V (z3U d t));have ec:CLS d (t :: T)=CLS d T:=by rw [CLS,hn]
 refine ⟨w',r1,⟨⟨b1.1,by omega⟩,⟨g1.1,by omega⟩,h.ne,by omega,⟨a1,n1,c1,a2,n2,c2,by rw [ec];exact (hk b (by omega) h.ne).trans h1,fun s x e=>(h2 s x (by rw [<-ec];exact e)).at (by omega) (fun k a1 _ a3=>hk k (by omega) a3)⟩,_,r2,fun x hx e=>?_,fun x s hx e=>?_⟩,STEPM.grown r3,hk⟩
 ·rw [z4o] at e
  simp only [Option.or_eq_none_iff] at e
  have e2:HKL x≠HKL (HSHT d t):=fun e2=>by
   have:=zaA hx (z3U d t) e2;rw [if_pos this.symm] at e;cases e.2
  rw [Maps.has_put_other e2];exact m2 x hx e.1
 ·by_cases e2:HKL x=HKL (HSHT d t)
  ·have:=zaA hx (z3U d t) e2
   subst this;rw [z4o,hn,if_pos rfl] at e;simp only [Option.none_or,Option.some.injEq] at e;subst e;exact ⟨Maps.has_put_same m1.isMap hkey _,gt,c,Maps.atKey_put_same m1.isMap hkey _ _,ht.at (hk _ (by omega) (by omega)),⟨by omega,hok⟩,by omega,by omega⟩
  ·rw [z4o,if_neg (fun e3=>e2 (by rw [e3])),Option.or_none] at e
   obtain ⟨a0,gs,cs,a3,a4,a5,a6,a7⟩:=m3 x s hx e;exact ⟨by rw [Maps.has_put_other e2];exact a0,gs,cs,by rw [Maps.atKey_put_other e2];exact a3,a4.at (hk _ (by omega) (by omega)),⟨by omega,a5.2⟩,a6,a7⟩
theorem z3y {d:Int} {T:List (List Nat)} {s t:List Nat} (hs:FST d T (HSHT d t)=some s) (x:List Int):FST d (t :: T) x=FST d T x:=by
 rw [z4o];by_cases e:HSHT d t=x
 ·rw [<-e,hs];rfl
 ·rw [if_neg e,Option.or_none]
theorem MET.again {w:World} {base top b g:Nat} {ok:Nat->Prop} {d:Int} {T:List (List Nat)} (h:MET w base top ok b g d T) {t:List Nat} (ht:FST d T (HSHT d t)=some t) {top':Nat} (ht':top<=top') (hs':top'<=w.heap.size):MET w base top' ok b g d (t :: T):=by
 have h:=h.keep (w':=w) (fun _ _=>rfl) ht' hs';obtain ⟨a1,n1,c1,a2,n2,c2,h1,h2⟩:=h.blk;obtain ⟨D,m1,m2,m3⟩:=h.map;have ec:CLS d (t :: T)=CLS d T:=by rw [CLS,ht];exact if_pos rfl
 refine ⟨h.hb,h.hg,h.ne,h.htop,⟨a1,n1,c1,a2,n2,c2,by rw [ec];exact h1,fun s x e=>h2 s x (by rw [<-ec];exact e)⟩,D,m1.mono (by simp),fun x hx e=>?_,fun x s hx e=>?_⟩
 ·rw [z3y ht] at e
  exact m2 x hx e
 ·rw [z3y ht] at e
  exact m3 x s hx e
theorem MET.found {w:World} {base top b g:Nat} {ok:Nat->Prop} {d:Int} {T:List (List Nat)} (h:MET w base top ok b g d T) {gs cs gt ct:Nat} {s t:List Nat} (hs:OWNT w base gs cs s) (ht:OWNT w base gt ct t) (hst:s≠t) (he:FST d T (HSHT d t)=some s) (l1:gs<top/\ok gs) (n1:gs≠b) (n2:gs≠g) (l2:top<=gt) (hok:ok gt) {top':Nat} (hgt':gt<top') (hs':top'<=w.heap.size):MET (w.setRow b #[.int .i64 d,.map (some g),.slice (some ⟨gs,0,none⟩) s.length cs,.slice (some ⟨gt,0,none⟩) t.length ct,.bool true]) base top' ok b g d (t :: T):=by
 have htp:=h.htop;have b1:=h.hb;have g1:=h.hg;have hgt:=ht.lt;obtain ⟨_,_,_,_,_,_,h1, -⟩:=h.blk;obtain ⟨D,m1,m2,m3⟩:=h.map;have ec:CLS d (t :: T)=some (s,t):=by rw [CLS,he];exact if_neg hst
 have hk:∀ k,k≠b->(w.setRow b #[.int .i64 d,.map (some g),.slice (some ⟨gs,0,none⟩) s.length cs,.slice (some ⟨gt,0,none⟩) t.length ct,.bool true]).heap[k]?=w.heap[k]?:=fun k hne=>setRow_other w b k _ hne;refine ⟨⟨b1.1,by omega⟩,⟨g1.1,by omega⟩,h.ne,by simpa using hs',⟨_,_,_,_,_,_,by rw [ec];exact Has.row h1 _,fun s' t' e=>?_⟩,D,?_,fun x hx e=>?_,fun x y hx e=>?_⟩
 ·rw [ec] at e
  simp only [Option.some.injEq,Prod.mk.injEq] at e;obtain ⟨rfl,rfl⟩:=e;exact ⟨gs,cs,gt,ct,rfl,rfl,hs.at (hk _ n1),ht.at (hk _ (by omega)),by omega,⟨by omega,l1.2⟩,⟨by omega,hok⟩,n1,n2,by omega,by omega⟩
 ·obtain ⟨es,clock,a1,a2,a3,r⟩:=m1
  exact ⟨es,clock,(hk g h.ne.symm).trans a1,a2,by simp;omega,r⟩
 ·rw [z3y he] at e
  exact m2 x hx e
 ·rw [z3y he] at e
  obtain ⟨a0,gx,cx,a3,a4,a5,a6,a7⟩:=m3 x y hx e;exact ⟨a0,gx,cx,a3,a4.at (hk _ a6),⟨by omega,a5.2⟩,a6,a7⟩
end Go.Proofs.YtnimaaflmdoaaaaGreatDoor
namespace Go.Proofs.YtnimaaflmdoaaaaGreatDoor
open Go.RowKit
set_option maxRecDepth 100000
theorem z17 {ops:Array Oper} {o:Oper} {a:Act} {w w':World} {K:Act->World->Prop} {Q:Exit->Act->World->Prop} {E:Prop} {v:Value} (hw:Region.wanted o (yielded ops a.tmps)=true)
  (hrun:(execOp a.eval o).run Tryz.prog w=.ok (.value v) w') (h:K (a.put o.dst v) w'):if Region.wanted o (yielded ops a.tmps)=true then Oper.wp Tryz.prog o a w K Q else E:=by
 rw [if_pos hw];unfold Oper.wp;rw [hrun];exact h
def z8N:Array Oper:=#[⟨some 16,.move (.tmp 0),61,"met.go:31",#[],none⟩,⟨some 17,.nilCheck (.tmp 16),0,"met.go:31",#[⟨0,.data⟩],none⟩,⟨some 18,.fieldAddr 66 (.tmp 17) 1,0,"met.go:31",#[⟨1,.data⟩],none⟩,⟨some 19,.load 64 (.tmp 18),64,"met.go:31",#[⟨2,.data⟩],none⟩,⟨some 20,.load 23 (.tmp 5),23,"met.go:31",#[],none⟩,⟨some 21,.lookup 64 (.tmp 19) (.tmp 20) true,149,"met.go:31",#[⟨3,.data⟩,⟨4,.data⟩],none⟩,⟨some 15,.move (.tmp 21),149,"met.go:31",#[⟨5,.data⟩],none⟩,⟨some 22,.extract (.tmp 15) 0,25,"met.go:31",#[⟨6,.data⟩],none⟩,⟨some 23,.extract (.tmp 15) 1,4,"met.go:31",#[⟨6,.data⟩,{on:=9,ground:=.gcOnly Departure.lateStores}],none⟩,⟨some 6,.assign (.tmp 22),25,"met.go:31",#[⟨7,.data⟩,⟨0,.phase⟩,⟨1,.phase⟩,⟨2,.phase⟩,⟨3,.phase⟩,⟨4,.phase⟩,⟨5,.phase⟩,⟨6,.phase⟩,⟨7,.phase⟩,{on:=8,ground:=.textOnly Departure.lateStores}],none⟩,⟨some 7,.assign (.tmp 23),4,"met.go:31",#[⟨8,.data⟩,⟨9,.chain⟩,⟨0,.phase⟩,⟨1,.phase⟩,⟨2,.phase⟩,⟨3,.phase⟩,⟨4,.phase⟩,⟨5,.phase⟩,⟨6,.phase⟩,⟨7,.phase⟩,⟨8,.phase⟩,⟨9,.phase⟩],none⟩]
theorem zfL {Q:Exit->Act->World->Prop} {u2 u3 u4 u6 u7 u8 u9 u10 u11 u12 u13 u14 u15 u16 u17 u18 u19 u20 u21 u22 u23 u24 u25 u26 u27 u28 u29 u30 u31 u32 u33 u34 u35 u36 u37 u38 u39 u40 u41 u42 u43 u44 u45:Value} (W:World) (b g bh n c:Nat) (a:Option Addr) (H:List Int) (lH:H.length=32) (v:Value) (o:Bool) (J:World->Prop) (h0:J W.drew) (hS:∀ w,J w->(fun w:World=>w.cell? ⟨b,1,none⟩=some (.map (some g))/\w.rangeAt bh 0 (z00 H)/\(Instr.lookup 64 (.map (some g)) (.agg (z00 H).toArray) true).run Tryz.prog w=.ok (.tuple #[v,.bool o]) w) w) (hQ:∀ c (a:Act) (t:Tmp) (v:Value) w,Q (.panic c) (a.put (some t) v) w->Q (.panic c) a w)
  (hfin:∀ (w:World),(J w)->Q .normal {tmps:=#[.pointer (some ⟨b,0,none⟩),.slice a n c,u2,u3,u4,.pointer (some ⟨bh,0,none⟩),v,.bool o,u8,u9,u10,u11,u12,u13,u14,.tuple #[v,.bool o],.pointer (some ⟨b,0,none⟩),.pointer (some ⟨b,0,none⟩),.pointer (some ⟨b,1,none⟩),.map (some g),.agg (z00 H).toArray,.tuple #[v,.bool o],v,.bool o,u24,u25,u26,u27,u28,u29,u30,u31,u32,u33,u34,u35,u36,u37,u38,u39,u40,u41,u42,u43,u44,u45],defers:=[]} w):(Code.region 2 z8N true).wp Tryz.prog Q {tmps:=#[.pointer (some ⟨b,0,none⟩),.slice a n c,u2,u3,u4,.pointer (some ⟨bh,0,none⟩),u6,u7,u8,u9,u10,u11,u12,u13,u14,u15,u16,u17,u18,u19,u20,u21,u22,u23,u24,u25,u26,u27,u28,u29,u30,u31,u32,u33,u34,u35,u36,u37,u38,u39,u40,u41,u42,u43,u44,u45],defers:=[]} W:=by
 have kst:∀ (w:World),(J w)->wpAnyH Tryz.prog .any z8N Q (fun w:World=>w.cell? ⟨b,1,none⟩=some (.map (some g))/\w.rangeAt bh 0 (z00 H)/\(Instr.lookup 64 (.map (some g)) (.agg (z00 H).toArray) true).run Tryz.prog w=.ok (.tuple #[v,.bool o]) w) 0 #[true,true,true,true,true,true,true,true,true,true,true] {tmps:=#[.pointer (some ⟨b,0,none⟩),.slice a n c,u2,u3,u4,.pointer (some ⟨bh,0,none⟩),v,.bool o,u8,u9,u10,u11,u12,u13,u14,.tuple #[v,.bool o],.pointer (some ⟨b,0,none⟩),.pointer (some ⟨b,0,none⟩),.pointer (some ⟨b,1,none⟩),.map (some g),.agg (z00 H).toArray,.tuple #[v,.bool o],v,.bool o,u24,u25,u26,u27,u28,u29,u30,u31,u32,u33,u34,u35,u36,u37,u38,u39,u40,u41,u42,u43,u44,u45],defers:=[]} w:=fun  w hp=>by
  exact wpAnyH_done (by kernel_rfl) (hfin  w hp) _
 have hp:=h0;have hww:(fun w:World=>w.cell? ⟨b,1,none⟩=some (.map (some g))/\w.rangeAt bh 0 (z00 H)/\(Instr.lookup 64 (.map (some g)) (.agg (z00 H).toArray) true).run Tryz.prog w=.ok (.tuple #[v,.bool o]) w) W.drew:=hS _ hp;have last:=kst W.drew hp
 have z:wpAnyH Tryz.prog .any z8N Q (fun w:World=>w.cell? ⟨b,1,none⟩=some (.map (some g))/\w.rangeAt bh 0 (z00 H)/\(Instr.lookup 64 (.map (some g)) (.agg (z00 H).toArray) true).run Tryz.prog w=.ok (.tuple #[v,.bool o]) w) 11 #[false,false,false,false,false,false,false,false,false,false,false] {tmps:=#[.pointer (some ⟨b,0,none⟩),.slice a n c,u2,u3,u4,.pointer (some ⟨bh,0,none⟩),u6,u7,u8,u9,u10,u11,u12,u13,u14,u15,u16,u17,u18,u19,u20,u21,u22,u23,u24,u25,u26,u27,u28,u29,u30,u31,u32,u33,u34,u35,u36,u37,u38,u39,u40,u41,u42,u43,u44,u45],defers:=[]} W.drew:=by
  refine wpAnyH_take (i:=0) (oi:=⟨some 16,.move (.tmp 0),61,"met.go:31",#[],none⟩) (v:=.pointer (some ⟨b,0,none⟩)) rfl (by kernel_rfl) (by kernel_rfl) (by kernel_rfl) (fun _ _ _ h=>hQ _ _ _ _ _ h) (Yields.yieldsIf (Or.inl ⟨by rfl,fun W=>by go_simp⟩)) hww ?_;simp only [Act.put,List.setIfInBounds_toArray,List.set_cons_zero,List.set_cons_succ];refine wpAnyH_take (i:=1) (oi:=⟨some 17,.nilCheck (.tmp 16),0,"met.go:31",#[⟨0,.data⟩],none⟩) (v:=.pointer (some ⟨b,0,none⟩)) rfl (by kernel_rfl) (by kernel_rfl) (by kernel_rfl) (fun _ _ _ h=>hQ _ _ _ _ _ h) (Yields.yieldsIf (Or.inl ⟨by rfl,fun W=>by go_simp⟩)) hww ?_;simp only [Act.put,List.setIfInBounds_toArray,List.set_cons_zero,List.set_cons_succ];refine wpAnyH_take (i:=2) (oi:=⟨some 18,.fieldAddr 66 (.tmp 17) 1,0,"met.go:31",#[⟨1,.data⟩],none⟩) (v:=.pointer (some ⟨b,1,none⟩)) rfl (by kernel_rfl) (by kernel_rfl) (by kernel_rfl) (fun _ _ _ h=>hQ _ _ _ _ _ h) (Yields.yieldsIf (Or.inl ⟨by rfl,fun W=>by go_simp⟩)) hww ?_;simp only [Act.put,List.setIfInBounds_toArray,List.set_cons_zero,List.set_cons_succ];refine wpAnyH_take (i:=3) (oi:=⟨some 19,.load 64 (.tmp 18),64,"met.go:31",#[⟨2,.data⟩],none⟩) (v:=.map (some g)) rfl (by kernel_rfl) (by kernel_rfl) (by kernel_rfl) (fun _ _ _ h=>hQ _ _ _ _ _ h) (Or.inl ⟨by rfl,fun w hw=>by have hx:=hw.1;go_simp⟩) hww ?_;simp only [Act.put,List.setIfInBounds_toArray,List.set_cons_zero,List.set_cons_succ]
  refine wpAnyH_take (i:=4) (oi:=⟨some 20,.load 23 (.tmp 5),23,"met.go:31",#[],none⟩) (v:=.agg (z00 H).toArray) rfl (by kernel_rfl) (by kernel_rfl) (by kernel_rfl) (fun _ _ _ h=>hQ _ _ _ _ _ h) (yieldsIf_load_mid (by rfl) 23 (.tmp 5) rfl bh 0 rfl (z00 H) _ (fun w h=>h.2.1) Tryz.underlying23 rfl (z0a lH)) hww ?_;simp only [Act.put,List.setIfInBounds_toArray,List.set_cons_zero,List.set_cons_succ];refine wpAnyH_take (i:=5) (oi:=⟨some 21,.lookup 64 (.tmp 19) (.tmp 20) true,149,"met.go:31",#[⟨3,.data⟩,⟨4,.data⟩],none⟩) (v:=.tuple #[v,.bool o]) rfl (by kernel_rfl) (by kernel_rfl) (by kernel_rfl) (fun _ _ _ h=>hQ _ _ _ _ _ h) (Or.inl ⟨by rfl,fun w hw=>by have hx:=hw.2.2;go_simp⟩) hww ?_;simp only [Act.put,List.setIfInBounds_toArray,List.set_cons_zero,List.set_cons_succ];refine wpAnyH_take (i:=6) (oi:=⟨some 15,.move (.tmp 21),149,"met.go:31",#[⟨5,.data⟩],none⟩) (v:=.tuple #[v,.bool o]) rfl (by kernel_rfl) (by kernel_rfl) (by kernel_rfl) (fun _ _ _ h=>hQ _ _ _ _ _ h) (Yields.yieldsIf (Or.inl ⟨by rfl,fun W=>by go_simp⟩)) hww ?_;simp only [Act.put,List.setIfInBounds_toArray,List.set_cons_zero,List.set_cons_succ];refine wpAnyH_take (i:=7) (oi:=⟨some 22,.extract (.tmp 15) 0,25,"met.go:31",#[⟨6,.data⟩],none⟩) (v:=v) rfl (by kernel_rfl) (by kernel_rfl) (by kernel_rfl) (fun _ _ _ h=>hQ _ _ _ _ _ h) (Yields.yieldsIf (Or.inl ⟨by rfl,fun W=>by go_simp⟩)) hww ?_;simp only [Act.put,List.setIfInBounds_toArray,List.set_cons_zero,List.set_cons_succ]
  refine wpAnyH_take (i:=8) (oi:=⟨some 23,.extract (.tmp 15) 1,4,"met.go:31",#[⟨6,.data⟩,{on:=9,ground:=.gcOnly Departure.lateStores}],none⟩) (v:=.bool o) rfl (by kernel_rfl) (by kernel_rfl) (by kernel_rfl) (fun _ _ _ h=>hQ _ _ _ _ _ h) (Yields.yieldsIf (Or.inl ⟨by rfl,fun W=>by go_simp⟩)) hww ?_;simp only [Act.put,List.setIfInBounds_toArray,List.set_cons_zero,List.set_cons_succ];refine wpAnyH_take (i:=9) (oi:=⟨some 6,.assign (.tmp 22),25,"met.go:31",#[⟨7,.data⟩,⟨0,.phase⟩,⟨1,.phase⟩,⟨2,.phase⟩,⟨3,.phase⟩,⟨4,.phase⟩,⟨5,.phase⟩,⟨6,.phase⟩,⟨7,.phase⟩,{on:=8,ground:=.textOnly Departure.lateStores}],none⟩) (v:=v) rfl (by kernel_rfl) (by kernel_rfl) (by kernel_rfl) (fun _ _ _ h=>hQ _ _ _ _ _ h) (Yields.yieldsIf (Or.inl ⟨by rfl,fun W=>by go_simp⟩)) hww ?_;simp only [Act.put,List.setIfInBounds_toArray,List.set_cons_zero,List.set_cons_succ];refine wpAnyH_take (i:=10) (oi:=⟨some 7,.assign (.tmp 23),4,"met.go:31",#[⟨8,.data⟩,⟨9,.chain⟩,⟨0,.phase⟩,⟨1,.phase⟩,⟨2,.phase⟩,⟨3,.phase⟩,⟨4,.phase⟩,⟨5,.phase⟩,⟨6,.phase⟩,⟨7,.phase⟩,⟨8,.phase⟩,⟨9,.phase⟩],none⟩) (v:=.bool o) rfl (by kernel_rfl) (by kernel_rfl) (by kernel_rfl) (fun _ _ _ h=>hQ _ _ _ _ _ h) (Yields.yieldsIf (Or.inl ⟨by rfl,fun W=>by go_simp⟩)) hww ?_;simp only [Act.put,List.setIfInBounds_toArray,List.set_cons_zero,List.set_cons_succ];exact last
 exact wp_region_held_drew (S:=(fun w:World=>w.cell? ⟨b,1,none⟩=some (.map (some g))/\w.rangeAt bh 0 (z00 H)/\(Instr.lookup 64 (.map (some g)) (.agg (z00 H).toArray) true).run Tryz.prog w=.ok (.tuple #[v,.bool o]) w)) (by kernel_rfl) hww (fun _=>z)
def z69:Array Oper:=#[⟨some 26,.move (.tmp 0),61,"met.go:33",#[],none⟩,⟨some 27,.nilCheck (.tmp 26),0,"met.go:33",#[⟨0,.data⟩],none⟩,⟨some 28,.fieldAddr 66 (.tmp 27) 1,0,"met.go:33",#[⟨1,.data⟩],none⟩,⟨some 29,.load 64 (.tmp 28),64,"met.go:33",#[⟨2,.data⟩],none⟩,⟨some 30,.load 23 (.tmp 5),23,"met.go:33",#[],none⟩,⟨some 31,.move (.tmp 1),25,"met.go:33",#[],none⟩,⟨none,.mapUpdate 64 (.tmp 29) (.tmp 30) (.tmp 31),0,"met.go:33",#[⟨3,.data⟩,⟨4,.data⟩,⟨5,.data⟩,⟨0,.phase⟩,⟨1,.phase⟩,⟨2,.phase⟩,⟨3,.phase⟩,⟨4,.phase⟩,⟨5,.phase⟩],none⟩]
theorem zhz {Q:Exit->Act->World->Prop} {u2 u3 u4 u6 u7 u8 u9 u10 u11 u12 u13 u14 u15 u16 u17 u18 u19 u20 u21 u22 u23 u24 u25 u26 u27 u28 u29 u30 u31 u32 u33 u34 u35 u36 u37 u38 u39 u40 u41 u42 u43 u44 u45:Value} (W:World) (b g bh n c:Nat) (a:Option Addr) (H:List Int) (lH:H.length=32) (J J':World->Prop) (h0:J W.drew) (hS:∀ w,J w->(fun w:World=>w.cell? ⟨b,1,none⟩=some (.map (some g))/\w.rangeAt bh 0 (z00 H)) w) (hS':∀ w,J' w->(fun w:World=>w.cell? ⟨b,1,none⟩=some (.map (some g))/\w.rangeAt bh 0 (z00 H)) w) (hU:∀ w,J w->∃ w',(Instr.mapUpdate 64 (.map (some g)) (.agg (z00 H).toArray) (.slice a n c)).run Tryz.prog w=.ok () w'/\J' w') (hQ:∀ c (a:Act) (t:Tmp) (v:Value) w,Q (.panic c) (a.put (some t) v) w->Q (.panic c) a w)
  (hfin:∀ (w:World),(J' w)->Q .normal {tmps:=#[.pointer (some ⟨b,0,none⟩),.slice a n c,u2,u3,u4,.pointer (some ⟨bh,0,none⟩),u6,u7,u8,u9,u10,u11,u12,u13,u14,u15,u16,u17,u18,u19,u20,u21,u22,u23,u24,u25,.pointer (some ⟨b,0,none⟩),.pointer (some ⟨b,0,none⟩),.pointer (some ⟨b,1,none⟩),.map (some g),.agg (z00 H).toArray,.slice a n c,u32,u33,u34,u35,u36,u37,u38,u39,u40,u41,u42,u43,u44,u45],defers:=[]} w):(Code.region 4 z69 true).wp Tryz.prog Q {tmps:=#[.pointer (some ⟨b,0,none⟩),.slice a n c,u2,u3,u4,.pointer (some ⟨bh,0,none⟩),u6,u7,u8,u9,u10,u11,u12,u13,u14,u15,u16,u17,u18,u19,u20,u21,u22,u23,u24,u25,u26,u27,u28,u29,u30,u31,u32,u33,u34,u35,u36,u37,u38,u39,u40,u41,u42,u43,u44,u45],defers:=[]} W:=by
 have kst6:∀ (w:World),(J' w)->wpAnyH Tryz.prog .any z69 Q (fun w:World=>w.cell? ⟨b,1,none⟩=some (.map (some g))/\w.rangeAt bh 0 (z00 H)) 0 #[true,true,true,true,true,true,true] {tmps:=#[.pointer (some ⟨b,0,none⟩),.slice a n c,u2,u3,u4,.pointer (some ⟨bh,0,none⟩),u6,u7,u8,u9,u10,u11,u12,u13,u14,u15,u16,u17,u18,u19,u20,u21,u22,u23,u24,u25,.pointer (some ⟨b,0,none⟩),.pointer (some ⟨b,0,none⟩),.pointer (some ⟨b,1,none⟩),.map (some g),.agg (z00 H).toArray,.slice a n c,u32,u33,u34,u35,u36,u37,u38,u39,u40,u41,u42,u43,u44,u45],defers:=[]} w:=fun  w hp=>by
  exact wpAnyH_done (by kernel_rfl) (hfin  w hp) _
 have kst:∀ (w:World),(J w)->wpAnyH Tryz.prog .any z69 Q (fun w:World=>w.cell? ⟨b,1,none⟩=some (.map (some g))/\w.rangeAt bh 0 (z00 H)) 1 #[true,true,true,true,true,true,false] {tmps:=#[.pointer (some ⟨b,0,none⟩),.slice a n c,u2,u3,u4,.pointer (some ⟨bh,0,none⟩),u6,u7,u8,u9,u10,u11,u12,u13,u14,u15,u16,u17,u18,u19,u20,u21,u22,u23,u24,u25,.pointer (some ⟨b,0,none⟩),.pointer (some ⟨b,0,none⟩),.pointer (some ⟨b,1,none⟩),.map (some g),.agg (z00 H).toArray,.slice a n c,u32,u33,u34,u35,u36,u37,u38,u39,u40,u41,u42,u43,u44,u45],defers:=[]} w:=fun  w hp=>by
  refine wpAnyH_ready (rs:=[6]) (by kernel_rfl) (by simp) ?_;refine AllReadyH.cons (o:=⟨none,.mapUpdate 64 (.tmp 29) (.tmp 30) (.tmp 31),0,"met.go:33",#[⟨3,.data⟩,⟨4,.data⟩,⟨5,.data⟩,⟨0,.phase⟩,⟨1,.phase⟩,⟨2,.phase⟩,⟨3,.phase⟩,⟨4,.phase⟩,⟨5,.phase⟩],none⟩) rfl (fun KQ hKQ=>?_) ?_
  ·exact (let ⟨w',h1,h2⟩:=hU w hp;z0A (by rfl) (by go_simp) (have hp:(fun (w:World)=>(J' w))  w':=h2;hKQ.out _ _ (hS' _ hp) (fun _=>kst6  _ hp)))
  exact AllReadyH.nil
 have hp:=h0;have hww:(fun w:World=>w.cell? ⟨b,1,none⟩=some (.map (some g))/\w.rangeAt bh 0 (z00 H)) W.drew:=hS _ hp;have last:=kst W.drew hp
 have z:wpAnyH Tryz.prog .any z69 Q (fun w:World=>w.cell? ⟨b,1,none⟩=some (.map (some g))/\w.rangeAt bh 0 (z00 H)) 7 #[false,false,false,false,false,false,false] {tmps:=#[.pointer (some ⟨b,0,none⟩),.slice a n c,u2,u3,u4,.pointer (some ⟨bh,0,none⟩),u6,u7,u8,u9,u10,u11,u12,u13,u14,u15,u16,u17,u18,u19,u20,u21,u22,u23,u24,u25,u26,u27,u28,u29,u30,u31,u32,u33,u34,u35,u36,u37,u38,u39,u40,u41,u42,u43,u44,u45],defers:=[]} W.drew:=by
  refine wpAnyH_take (i:=0) (oi:=⟨some 26,.move (.tmp 0),61,"met.go:33",#[],none⟩) (v:=.pointer (some ⟨b,0,none⟩)) rfl (by kernel_rfl) (by kernel_rfl) (by kernel_rfl) (fun _ _ _ h=>hQ _ _ _ _ _ h) (Yields.yieldsIf (Or.inl ⟨by rfl,fun W=>by go_simp⟩)) hww ?_;simp only [Act.put,List.setIfInBounds_toArray,List.set_cons_zero,List.set_cons_succ];refine wpAnyH_take (i:=1) (oi:=⟨some 27,.nilCheck (.tmp 26),0,"met.go:33",#[⟨0,.data⟩],none⟩) (v:=.pointer (some ⟨b,0,none⟩)) rfl (by kernel_rfl) (by kernel_rfl) (by kernel_rfl) (fun _ _ _ h=>hQ _ _ _ _ _ h) (Yields.yieldsIf (Or.inl ⟨by rfl,fun W=>by go_simp⟩)) hww ?_;simp only [Act.put,List.setIfInBounds_toArray,List.set_cons_zero,List.set_cons_succ];refine wpAnyH_take (i:=2) (oi:=⟨some 28,.fieldAddr 66 (.tmp 27) 1,0,"met.go:33",#[⟨1,.data⟩],none⟩) (v:=.pointer (some ⟨b,1,none⟩)) rfl (by kernel_rfl) (by kernel_rfl) (by kernel_rfl) (fun _ _ _ h=>hQ _ _ _ _ _ h) (Yields.yieldsIf (Or.inl ⟨by rfl,fun W=>by go_simp⟩)) hww ?_;simp only [Act.put,List.setIfInBounds_toArray,List.set_cons_zero,List.set_cons_succ];refine wpAnyH_take (i:=3) (oi:=⟨some 29,.load 64 (.tmp 28),64,"met.go:33",#[⟨2,.data⟩],none⟩) (v:=.map (some g)) rfl (by kernel_rfl) (by kernel_rfl) (by kernel_rfl) (fun _ _ _ h=>hQ _ _ _ _ _ h) (Or.inl ⟨by rfl,fun w hw=>by have hx:=hw.1;go_simp⟩) hww ?_;simp only [Act.put,List.setIfInBounds_toArray,List.set_cons_zero,List.set_cons_succ]
  refine wpAnyH_take (i:=4) (oi:=⟨some 30,.load 23 (.tmp 5),23,"met.go:33",#[],none⟩) (v:=.agg (z00 H).toArray) rfl (by kernel_rfl) (by kernel_rfl) (by kernel_rfl) (fun _ _ _ h=>hQ _ _ _ _ _ h) (yieldsIf_load_mid (by rfl) 23 (.tmp 5) rfl bh 0 rfl (z00 H) _ (fun w h=>h.2) Tryz.underlying23 rfl (z0a lH)) hww ?_;simp only [Act.put,List.setIfInBounds_toArray,List.set_cons_zero,List.set_cons_succ];refine wpAnyH_take (i:=5) (oi:=⟨some 31,.move (.tmp 1),25,"met.go:33",#[],none⟩) (v:=.slice a n c) rfl (by kernel_rfl) (by kernel_rfl) (by kernel_rfl) (fun _ _ _ h=>hQ _ _ _ _ _ h) (Yields.yieldsIf (Or.inl ⟨by rfl,fun W=>by go_simp⟩)) hww ?_;simp only [Act.put,List.setIfInBounds_toArray,List.set_cons_zero,List.set_cons_succ];exact last
 exact wp_region_held_drew (S:=(fun w:World=>w.cell? ⟨b,1,none⟩=some (.map (some g))/\w.rangeAt bh 0 (z00 H))) (by kernel_rfl) hww (fun _=>z)
end Go.Proofs.YtnimaaflmdoaaaaGreatDoor
namespace Go.Proofs.YtnimaaflmdoaaaaGreatDoor.HX
open Go.RowKit
set_option maxRecDepth 100000
abbrev BY (l:List Nat):List Value:=z00 (INTS l)
theorem zh5 (l:List Nat) (i:Nat) (h:i<l.length):(BY l)[i]?=some (.int .u8 ((l.getD i 0:Nat):Int)):=by
 simp [BY,z00,INTS,List.getD_eq_getElem?_getD,h]
theorem z2o (W:World) (b j:Nat) (v:Value):W.grownBy (W.setCell ⟨b,j,none⟩ v) (some b):=
 ⟨rfl,rfl,rfl,by simp,fun k _ hk=>Below.heap_setCell _ _ _ k (fun e=>hk (by rw [e]))⟩
theorem HM (m:Nat) (hm:m<256) (w4:World):Bytes (w4.alloc (.cells #[.int .u8 (m:Int)] 5)) (some ⟨w4.heap.size,0,none⟩) 1 [(m:Int)]:=z2W w4 1 (fun _=>(m:Int)) [(m:Int)] rfl (fun i hi=>by obtain rfl:i=0:=(by omega);rfl) (fun x hx=>by simp at hx;omega)
theorem z8O {w w':World} {base:Nat} {t:TypeId} {s:Nat} {v:Value} {n:Nat} {xs:List Value} (h:w.ownsRow base t s v n xs) (hb:Below w.heap.size w w'):w'.ownsRow base t s v n xs:=by
 refine ⟨h.1,h.2.imp id ?_⟩;rintro ⟨g,c,cur,a,b,r,rest⟩;exact ⟨g,c,cur,a,b,(hb.block g (Array.getElem?_eq_some_iff.1 r).1).trans r,rest⟩
theorem z4O {ops:Array Oper} {rest:List Oper} {o:Oper} {a:Act} {Q:Exit->Act->World->Prop} (w:World) (hg:o.guard=none) (t e:TypeId) (x:Operand) (ho:o.op=.buildSlice t 1 #[(0,x)]) (C:Array Value) (hx:a.eval x=.agg C) (n:Nat) (z:Value) (by':Nat)
  (hu:Tryz.prog.underlying t=some (.slice e)) (hi:(Tryz.prog.info? e).map (fun i=>(i.zero,i.size,i.bytes))=some (some z,n,by')) (hC:C.size=n) (hz:z.cells.size=n) (hn:0<n) (hs:n<=1000)
  (h:wpList Tryz.prog ops Q rest (a.put o.dst (.slice (some ⟨w.heap.size,0,none⟩) 1 1)) (w.alloc (.cells C e))):wpList Tryz.prog ops Q (o :: rest) a w:=by
 obtain ⟨i,hie,hz',hs1,_⟩:=info_parts hi;refine wpList_buildSlice hg t e 1 _ ho C i z hu hie hz' (by rw [hs1];omega) (by rw [hs1];omega) ?_ h;have:=Great.fill_whole (s:=n) hn [.agg C] ((Array.range (1*i.size)).map (z.cells[· % z.cells.size]!)) (fun v hv=>by simp at hv;subst hv;exact hC) (by simp [hs1]);simp [Value.cells] at this;rw [hs1];simp [hx];rw [hs1] at this;exact this
end Go.Proofs.YtnimaaflmdoaaaaGreatDoor.HX
namespace Go.Proofs.YtnimaaflmdoaaaaGreatDoor.HX
open Go.RowKit
theorem z4c (n:Nat) (hn:n<64) (w:World):Calls Tryz.prog 187 #[.int .i64 (n:Int)] w fun e w'=>e=.returned (.int .u64 ((2 ^ n:Nat):Int))/\w=w':=by
 have HN:Aside (n<64):=hn;clear hn;go_enter Tryz.func187,Tryz.ntmps187;go_wp2;go_loopg [3,4] n (fun g s3 s4 wx=>∃ (i:Nat) (p:Int),i+g=n/\Aside (p=((2 ^ i:Nat):Int))/\s3=.int .u64 p/\s4=.int .i64 i/\wx=w)
 case atStart=>exact ⟨0,1,by omega,rfl,rfl,rfl,rfl⟩
 case round=>
  obtain ⟨i,p,hig,A,rfl,rfl,rfl⟩:=hrel;cases gk with
  | zero=>
    obtain rfl:i=n:=by omega
    go_wp2;go_ret;exact ⟨by rw [<-A.out];rfl,rfl⟩
  | succ g=>
    have hlt:(i:Int)<(n:Int):=by omega
    have hlt2:(i:Int)<64:=by have:=HN.out;omega
    obtain ⟨p',hp'⟩:∃ p',IntKind.u64.wrap (2*p)=p':=⟨_,rfl⟩
    have B:Aside (IntKind.u64.wrap (2*p)=p'):=hp';go_wp2;go_roundg g
    case measure=>omega
    case rel=>
     refine ⟨i+1,p',by omega,?_,rfl,by go_num,rfl⟩;show p'=_;have h1:(2 ^ i:Nat)<=2 ^ 62:=Nat.pow_le_pow_right (by decide) (by have:=HN.out;omega);rw [<-B.out,A.out,z0k,Nat.pow_succ];omega
def z3k (l:List Nat):List Value:=l.map fun (x:Nat)=>Value.int .u64 (x:Int)
theorem zbJ (l:List Nat) (i:Nat) (h:i<l.length):(z3k l)[i]?=some (.int .u64 (l.getD i 0:Nat)):=by simp [z3k,h,List.getD_eq_getElem?_getD]
theorem z2G:∃ i,Tryz.prog.info? 24=some i/\i.zero=some (.int .u64 0)/\i.size=1/\i.bytes=8:=by
 have h:(Tryz.prog.info? 24).map (fun i=>(i.zero,i.size,i.bytes))=some (some (.int .u64 0),1,8):=by kernel_rfl
 obtain ⟨i,hi,h⟩:=Option.map_eq_some_iff.1 h;simp only [Prod.mk.injEq] at h;exact ⟨i,hi,h.1,h.2.1,h.2.2⟩
theorem zag {ops:Array Oper} {rest:List Oper} {o:Oper} {a:Act} {Q:Exit->Act->World->Prop} (w:World) (hgd:o.guard=none) (s x:Operand)
  (ho:o.op=.call {callee:=.builtin .append,args:=#[s,x],argTypes:=#[95,95]})
  (base:Nat) (v:Value) (hs:a.eval s=v) (hown:w.ownsRow base 24 1 v 0 [])
  (b m c:Nat) (l:List Nat) (hx:a.eval x=.slice (some ⟨b,0,none⟩) m c) (hl:l.length=m) (hc:∀ i,i<m->w.cell? ⟨b,i,none⟩=some (.int .u64 (l.getD i 0:Nat))) (hm:0<m) (hb:m<=1000) (hbase:base<=w.heap.size)
  (h:∀ g cap w',w'.ownsRow base 24 1 (.slice (some ⟨g,0,none⟩) m cap) m (z3k l)->w.grownBy w' v.ownBlock->g<w'.heap.size->wpList Tryz.prog ops Q rest (a.put o.dst (.slice (some ⟨g,0,none⟩) m cap)) w'):wpList Tryz.prog ops Q (o :: rest) a w:=by
 obtain ⟨i,hi,hz,hs1,hby⟩:=z2G;refine wpList_append_lies w hgd s x 95 ho base 24 i (.int .u64 0) 1 8 Tryz.underlying95 hi hz hs1 hby rfl (by decide) v 0 [] hs hown ⟨b,0,none⟩ m c (z3k l) hx (by simp [z3k,hl]) ?_ (fun u hu=>by simp [z3k] at hu;obtain ⟨y,_,rfl⟩:=hu;rfl) hm (by simp only [maxLen];omega) (by omega) hbase w.heap.size rfl ?_
 ·intro j u hj
  have hjl:j<l.length:=by
   have:=(List.getElem?_eq_some_iff.1 hj).1;simpa [z3k] using this
  rw [zbJ l j hjl] at hj;rw [z1w,Nat.zero_add,hc j (by omega)];exact hj
 ·intro g cap w' h1 h2 _ h4
  rw [List.nil_append,Nat.zero_add] at h1;rw [Nat.zero_add];exact h g cap w' h1 h2 h4
end Go.Proofs.YtnimaaflmdoaaaaGreatDoor.HX
namespace Go.Proofs.YtnimaaflmdoaaaaGreatDoor.HX
open Go.RowKit
set_option maxRecDepth 100000
theorem zas (w:World) (base:Nat) (hb:base<=w.heap.size) (f:Nat->Nat):(w.alloc (.cells (UARR .u8 32 f) 23)).ownsRow base 23 32 (.slice (some ⟨w.heap.size,0,none⟩) 1 1) 1 (z01 .u8 32 f):=
 ⟨by rw [z09],.inr ⟨w.heap.size,1,UARR .u8 32 f,rfl,hb,by first | exact (Has.new w _ _) | exact (Has.new w _ _).1 | simp,by decide,by decide,by rw [z02],by rw [z0G,List.take_of_length_le (by rw [z09];decide)]⟩⟩
def Parts0 (w:World) (a:Option Addr) (k:Nat) (ps:List PART):Prop:=
 ps.length=k/\(0<k->∃ b off,a=some ⟨b,off,none⟩/\b<w.heap.size/\∀ i p,ps[i]?=some p->w.cell? ⟨b,off+i,none⟩=some (.slice p.a p.n p.c))/\∀ p∈ps,Text w p.a p.n p.l
theorem Parts.zero {w:World} {a:Option Addr} {k:Nat} {ps:List PART} (h:Parts w a k ps):Parts0 w a k ps:=⟨h.1,h.2.1,fun p hp=>(h.2.2 p hp).1⟩
theorem Parts0.below {w w':World} {a:Option Addr} {k:Nat} {ps:List PART} (h:Parts0 w a k ps) (hb:Below w.heap.size w w'):Parts0 w' a k ps:=
 ⟨h.1,fun hk=>by
  obtain ⟨b,off,e,hl,hc⟩:=h.2.1 hk;exact ⟨b,off,e,Nat.lt_of_lt_of_le hl hb.size,fun i p hp=>(hb.cell (by exact hl)).trans (hc i p hp)⟩,fun p hp=>(h.2.2 p hp).below hb⟩
structure GP where
 g:Nat
 c:Nat
 l:List Nat
def z6a (gs:List GP):List Value:=gs.map fun p=>.slice (some ⟨p.g,0,none⟩) p.l.length p.c
structure GIVEN (w:World) (B:Nat) (s:Value) (gs:List GP):Prop where
 own:w.ownsRow B 25 1 s gs.length (z6a gs)
 row:∀ (i:Nat) (p:GP),gs[i]?=some p->w.ownsRow B 5 1 (.slice (some ⟨p.g,0,none⟩) (p.l.length+1) p.c) (p.l.length+1) (BY (p.l ++ [171]))
 far:∀ (i:Nat) (p:GP),gs[i]?=some p->s.ownBlock≠some p.g
 apart:∀ (i j:Nat) (p q:GP),gs[i]?=some p->gs[j]?=some q->i≠j->p.g≠q.g
 small:∀ (i:Nat) (p:GP),gs[i]?=some p->Small8 p.l
theorem GIVEN.start (w:World) (B:Nat):GIVEN w B (.slice none 0 0) []:=
 ⟨⟨rfl,.inl ⟨rfl,rfl⟩⟩,fun i p h=>by simp at h,fun i p h=>by simp at h,fun i j p q h=>by simp at h,fun i p h=>by simp at h⟩
theorem GIVEN.keep {w w':World} {B:Nat} {s:Value} {gs:List GP} (h:GIVEN w B s gs) (hb:Below w.heap.size w w'):GIVEN w' B s gs:=
 ⟨z8O h.own hb,fun i p hp=>z8O (h.row i p hp) hb,h.far,h.apart,h.small⟩
theorem GIVEN.text {w:World} {B:Nat} {s:Value} {gs:List GP} (h:GIVEN w B s gs) {i:Nat} {p:GP} (hp:gs[i]?=some p):Text w (some ⟨p.g,0,none⟩) p.l.length p.l/\p.l.length+1<=p.c:=by
 have hr:=h.row i p hp;have hb:=z1f (l:=INTS (p.l ++ [171])) hr (z1O (zbB (h.small i p hp)));have ht:=Text.of_bytes hb.1;refine ⟨⟨rfl,fun hn=>?_,h.small i p hp⟩,hb.2⟩;obtain ⟨b,off,e,hl,hc⟩:=ht.2.1 (by omega);refine ⟨b,off,e,hl,fun j hj=>?_⟩;rw [hc j (by omega),List.getD_eq_getElem?_getD,List.getElem?_append_left hj,<-List.getD_eq_getElem?_getD]
theorem zh6 (l:List Nat) (k x:Nat):BY (l.set k x)=(BY l).set k (.int .u8 (x:Int)):=by simp [BY,z00,INTS,List.map_set]
theorem zbK (gs:List GP) (i k x:Nat) (p:GP) (hp:gs[i]?=some p):z6a (gs.set i ⟨p.g,p.c,p.l.set k x⟩)=z6a gs:=by
 obtain ⟨hi,he⟩:=List.getElem?_eq_some_iff.1 hp;apply List.ext_getElem?;intro j;simp only [z6a,List.getElem?_map,List.getElem?_set];by_cases e:i=j
 ·subst e
  simp [hi,he]
 ·simp [e]
theorem GIVEN.put {w:World} {B:Nat} {s:Value} {gs:List GP} (h:GIVEN w B s gs) {i k x:Nat} {p:GP} (hp:gs[i]?=some p) (hk:k<p.l.length) (hx:x<256):
  GIVEN (w.setCell ⟨p.g,k,none⟩ (.int .u8 (x:Int))) B s (gs.set i ⟨p.g,p.c,p.l.set k x⟩)/\w.frozen? ⟨p.g,k,none⟩=false/\w.cell? ⟨p.g,k,none⟩=some (.int .u8 ((p.l.getD k 0:Nat):Int)):=by
 have hi:i<gs.length:=(List.getElem?_eq_some_iff.1 hp).1;have hr:=h.row i p hp;have hst:=hr.stored k (.int .u8 (x:Int))
 have hc:∀ {j:Nat} {q:GP},(gs.set i ⟨p.g,p.c,p.l.set k x⟩)[j]?=some q->(j=i/\q=⟨p.g,p.c,p.l.set k x⟩)\/(j≠i/\gs[j]?=some q):=fun {j q} hq=>by
  by_cases e:i=j
  ·subst e
   rw [List.getElem?_set_self hi] at hq;exact .inl ⟨rfl,(Option.some.inj hq).symm⟩
  ·rw [List.getElem?_set_ne e] at hq
   exact .inr ⟨Ne.symm e,hq⟩
 refine ⟨⟨?_,fun j q hq=>?_,fun j q hq=>?_,fun j m q r hq hr' hne=>?_,fun j q hq=>?_⟩,?_,?_⟩
 ·rw [zbK gs i k x p hp,List.length_set]
  exact h.own.kept hst.2 (.inr (h.far i p hp))
 ·rcases hc hq with ⟨rfl,rfl⟩ | ⟨hji,hq⟩
  ·have e:BY (p.l.set k x ++ [171])=(BY (p.l ++ [171])).set k (.int .u8 (x:Int)):=by rw [<-zh6,List.set_append_left _ _ hk]
   show (w.setCell ⟨p.g,k,none⟩ (.int .u8 (x:Int))).ownsRow B 5 1 (.slice (some ⟨p.g,0,none⟩) ((p.l.set k x).length+1) p.c) ((p.l.set k x).length+1) (BY (p.l.set k x ++ [171]));rw [e,List.length_set];exact hst.1
  ·exact (h.row j q hq).kept hst.2 (.inr fun e=>h.apart j i q p hq hp hji (by simpa [Value.ownBlock] using e))
 ·rcases hc hq with ⟨rfl,rfl⟩ | ⟨hji,hq⟩
  ·exact h.far j p hp
  ·exact h.far j q hq
 ·rcases hc hq with ⟨rfl,rfl⟩ | ⟨hji,hq2⟩
  ·rcases hc hr' with ⟨rfl,rfl⟩ | ⟨hmi,hr2⟩
   ·exact absurd rfl hne
   ·exact h.apart _ _ p r hp hr2 hne
  ·rcases hc hr' with ⟨rfl,rfl⟩ | ⟨hmi,hr2⟩
   ·exact h.apart _ _ q p hq2 hp hne
   ·exact h.apart _ _ q r hq2 hr2 hne
 ·rcases hc hq with ⟨rfl,rfl⟩ | ⟨hji,hq⟩
  ·intro y hy
   rcases List.mem_or_eq_of_mem_set hy with hy | rfl
   ·exact h.small j p hp y hy
   ·exact hx
  ·exact h.small j q hq
 ·rcases hr.2 with ⟨h',_⟩ | ⟨g',cap',cur,h',_,hg,_⟩
  ·simp at h'
  ·simp only [Value.slice.injEq,Option.some.injEq,Addr.mk.injEq,and_true,true_and] at h'
   obtain ⟨rfl,rfl⟩:=h';exact frozen_of_row w p.g k cur 5 hg
 ·rw [hr.cellAt k (by omega),zh5 _ _ (by rw [List.length_append];omega),List.getD_eq_getElem?_getD,List.getElem?_append_left hk,<-List.getD_eq_getElem?_getD]
end Go.Proofs.YtnimaaflmdoaaaaGreatDoor.HX
namespace Go.Proofs.YtnimaaflmdoaaaaGreatDoor.HX
open Go.RowKit
end Go.Proofs.YtnimaaflmdoaaaaGreatDoor.HX
namespace Go.Proofs.YtnimaaflmdoaaaaGreatDoor.HX
open Go.RowKit
set_option maxRecDepth 100000
theorem zh7 {W:World} {g:Nat} {a:Option Addr} {n c:Nat} {l:List Nat} (hg:Has W g #[.slice a n c] 25) (hT:Text W a n l) (hc:n<=c) (hx:∀ x,a=some x->x.block<W.heap.size):Parts W (some ⟨g,0,none⟩) 1 [⟨a,n,c,l⟩]:=by
 refine ⟨rfl,fun _=>⟨g,0,rfl,hg.lt,fun i p hp=>?_⟩,fun p hp=>?_⟩
 ·cases i with
  | zero=>
    simp only [List.getElem?_cons_zero,Option.some.injEq] at hp;subst hp;rw [hg.cell];rfl
  | succ i=>simp at hp
 ·simp only [List.mem_singleton] at hp
  subst hp;exact ⟨hT,hc,hx⟩
theorem sum9 (d:Int) (W:World) (g:Nat) (a:Option Addr) (n c:Nat) (l:List Nat) (hg:Has W g #[.slice a n c] 25) (hT:Text W a n l) (hc:n<=c) (hx:∀ x,a=some x->x.block<W.heap.size) (hn:n<2 ^ 60) (h:Tabled W):Calls Tryz.prog 30 #[.int .i64 d,.slice (some ⟨g,0,none⟩) 1 1] W fun e w'=>e=.returned (.agg (UARR .u8 32 (z0e d l)))/\Below W.heap.size W w':=by
 have e:JOIN [⟨a,n,c,l⟩]=l:=by simp [JOIN]
 have k:=zde d (some ⟨g,0,none⟩) 1 1 _ _ (zh7 hg hT hc hx) h (by rw [e,hT.1];exact hn) (by decide);rw [e] at k;exact k
end Go.Proofs.YtnimaaflmdoaaaaGreatDoor.HX
