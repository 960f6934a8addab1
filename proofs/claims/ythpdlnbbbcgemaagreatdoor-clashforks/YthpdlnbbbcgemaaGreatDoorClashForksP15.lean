/- Texts of ClashForks, one behind the other: ClashMap, StepLists, ClashTakeRegions. -/
import Derived.Deep.AppendLies
import Derived.Test.YthpdlnbbbcgemaaGreatDoorClashForksP14
namespace Go.Proofs.YthpdlnbbbcgemaaGreatDoor
open Go.RowKit Go.Maps
set_option maxRecDepth 100000
theorem zay:(24:TypeId)<Tryz.prog.types.size:=of_decide_eq_true (by kernel_rfl)
theorem zeC:(match Tryz.prog.underlying 24 with | some (.array _ _) | some (.struct _)=>true | _=>false)=true:=by rw [Tryz.underlying24]
theorem lawH:Keyed Tryz.prog 24:=Keyed.of_law (deep_law_laid z8v (m:=2) (by omega) zay (by kernel_rfl) zeC)
def HKL (h:List Int):Lit:=.string (keyBytes ((List.range 32).map fun i=>[Lit.int .u8 (h.getD i 0)]).flatten)
theorem z7z {α β:Type} (f:α→Option β) (g:α→β):∀ l:List α,(∀ x∈l,f x=some (g x))→l.mapM f=some (l.map g)
  | [],_=>rfl
  | x :: l,h=>by
    rw [List.mapM_cons,h x (List.mem_cons_self ..),z7z f g l (fun y hy=>h y (List.mem_cons_of_mem _ hy))]
    rfl
theorem z3V {h:List Int} (hh:IsH h):keyOf Tryz.prog 24 (.agg (z01 h).toArray)=some (HKL h):=by
  have c3:Tryz.prog.cellsOf 24=32:=by kernel_rfl
  have c1:Tryz.prog.cellsOf 5=1:=by kernel_rfl
  have ht:Tryz.prog.keyType 24=true:=by kernel_rfl
  have hl:(z01 h).length=32:=by simp [z01,hh.1]
  have hf:(Value.agg (z01 h).toArray).formed Tryz.prog 24=true:=by simp [Value.formed,Tryz.underlying24,c3,hl]
  obtain ⟨m,hm⟩:∃ m,Tryz.prog.types.size=m+1:=⟨Tryz.prog.types.size - 1,(Nat.succ_pred_eq_of_pos (Nat.lt_of_le_of_lt (Nat.zero_le _) zay)).symm⟩
  unfold keyOf
  simp only [Tryz.underlying24,ht,hf,hm]
  simp only [Bool.and_self,if_true,Program.keyLits,Tryz.underlying24,Value.cells,c1,c3,hl]
  rw [z7z _ (fun i=>[Lit.int .u8 (h.getD i 0)]) (List.range 32)]
  · rfl
  · intro i hi
    have hi:i<32:=List.mem_range.1 hi
    have e:((z01 h).drop (i*1)).take 1=[.int .u8 (h.getD i 0)]:=by
      rw [Nat.mul_one]
      apply List.ext_getElem?
      intro j
      rw [List.getElem?_take]
      cases j with
      | zero=>
        simp only [Nat.zero_lt_one,if_true,List.getElem?_drop,Nat.add_zero,List.getElem?_cons_zero]
        unfold z01
        rw [List.getElem?_map,List.getD_eq_getElem?_getD,List.getElem?_eq_getElem (by rw [hh.1];exact hi)]
        rfl
      | succ j=>simp
    have hr:0≤h.getD i 0∧h.getD i 0≤255:=by
      rw [List.getD_eq_getElem?_getD,List.getElem?_eq_getElem (by rw [hh.1];exact hi)]
      exact hh.2 _ (List.getElem_mem _)
    have w0:(Lit.int .u8 (h.getD i 0)).wf=true:=WalkArith.wf_u8 (by omega)
    rw [e]
    simp only [Tryz.underlying5]
    rw [if_pos ⟨trivial,w0⟩]
theorem zd0 {h k:List Int} (e:z01 h=z01 k):h=k:=by
  unfold z01 at e
  exact List.map_inj_right (f:=Value.int .u8) (fun x y hxy=>by simpa using hxy) |>.1 e
theorem zaz {h k:List Int} (hh:IsH h) (hk:IsH k) (e:HKL h=HKL k):h=k:=by
  have h1:=z3V hh
  have h2:=z3V hk
  rw [← e] at h2
  have:=lawH.inj h1 h2
  simp only [Value.agg.injEq] at this
  exact zd0 (by simpa using this)
def OWNT (w:World) (base g c:Nat) (t:List Nat):Prop:=w.ownsRow base 5 1 (.slice (some ⟨g,0,none⟩) t.length c) t.length (HX.z01 (HX.INTS t))∧HX.Small8 t∧0<t.length∧t.length≤200
theorem OWNT.at {w w':World} {base g c:Nat} {t:List Nat} (h:OWNT w base g c t) (hg:w'.heap[g]?=w.heap[g]?):OWNT w' base g c t:=by
  refine ⟨⟨h.1.1,h.1.2.imp id ?_⟩,h.2⟩
  rintro ⟨g2,c2,cur,e1,e2,e3,e4⟩
  have:g2=g:=by cases e1;rfl
  subst this
  exact ⟨g2,c2,cur,e1,e2,hg.trans e3,e4⟩
theorem OWNT.lt {w:World} {base g c:Nat} {t:List Nat} (h:OWNT w base g c t):base≤g∧g<w.heap.size:=h.1.lt g rfl
theorem OWNT.cap {w:World} {base g c:Nat} {t:List Nat} (h:OWNT w base g c t):t.length≤c:=by
  rcases h.1.2 with ⟨e,_⟩ | ⟨g2,cap,cur,e,_,_,h2,_⟩
  · cases e
  · cases e;exact h2
theorem OWNT.text {w:World} {base g c:Nat} {t:List Nat} (h:OWNT w base g c t):HX.Text w (some ⟨g,0,none⟩) t.length t:=
  ⟨rfl,fun _=>⟨g,0,rfl,h.lt.2,fun i hi=>by
    rw [Nat.zero_add,h.1.cellAt i (by omega)]
    simp [HX.z01,HX.INTS,List.getD_eq_getElem?_getD,hi]⟩,h.2.1⟩
structure STEPM (b g:Nat) (w w':World):Prop where
  os:w'.os=w.os
  tape:w'.tape=w.tape
  output:w'.output=w.output
  size:w.heap.size≤w'.heap.size
  block:∀ k,k<w.heap.size→k≠b→k≠g→w'.heap[k]?=w.heap[k]?
theorem STEPM.refl (b g:Nat) (w:World):STEPM b g w w:=⟨rfl,rfl,rfl,Nat.le_refl _,fun _ _ _ _=>rfl⟩
theorem STEPM.trans {b g:Nat} {w w' w'':World} (h:STEPM b g w w') (k:STEPM b g w' w''):STEPM b g w w'':=⟨k.os.trans h.os,k.tape.trans h.tape,k.output.trans h.output,Nat.le_trans h.size k.size,fun i h1 h2 h3=>(k.block i (Nat.lt_of_lt_of_le h1 h.size) h2 h3).trans (h.block i h1 h2 h3)⟩
theorem STEPM.of_below {b g:Nat} {w w':World} (h:Below w.heap.size w w'):STEPM b g w w':=⟨h.os,h.tape,h.output,h.size,fun k h1 _ _=>h.block k h1⟩
theorem STEPM.below {b g base:Nat} {w w':World} (h:STEPM b g w w') (h0:base≤w.heap.size) (h1:base≤b) (h2:base≤g):Below base w w':=⟨h.os,h.tape,h.output,h.size,fun k hk=>h.block k (by omega) (by omega) (by omega)⟩
theorem STEPM.grown {b g:Nat} {w w':World} (h:w.grownBy w' (some g)):STEPM b g w w':=⟨h.os,h.tape,h.output,h.size,fun k h1 _ h3=>h.block k h1 (fun e=>h3 (by simpa using e))⟩
theorem STEPM.setRow {b g:Nat} (w:World) (cs:Array Value):STEPM b g w (w.setRow b cs):=⟨rfl,rfl,rfl,by simp,fun k _ h2 _=>setRow_other w b k cs h2⟩
def FST (d:Int) (T:List (List Nat)) (h:List Int):Option (List Nat):=T.reverse.find? fun s=>decide (HSHT d s=h)
def CLS (d:Int):List (List Nat)→Option (List Nat × List Nat)
  | []=>none
  | t :: T=>match FST d T (HSHT d t) with
    | none=>CLS d T
    | some s=>if s=t then CLS d T else some (s,t)
theorem z4h (d:Int) (t:List Nat) (T:List (List Nat)) (h:List Int):FST d (t :: T) h=(FST d T h).or (if HSHT d t=h then some t else none):=by
  unfold FST
  rw [List.reverse_cons,List.find?_append]
  congr 1
  by_cases e:HSHT d t=h <;> simp [e]
theorem z5N {d:Int} {T:List (List Nat)} {h:List Int} {s:List Nat} (e:FST d T h=some s):s∈T∧HSHT d s=h:=by
  unfold FST at e
  exact ⟨List.mem_reverse.1 (List.mem_of_find?_eq_some e),by simpa using List.find?_some e⟩
theorem zeD {d:Int} {T:List (List Nat)} {h:List Int} (e:FST d T h=none):∀ s∈T,HSHT d s≠h:=fun s hs=>by
  unfold FST at e
  simpa using List.find?_eq_none.1 e s (List.mem_reverse.2 hs)
theorem z8U {d:Int}:∀ {T:List (List Nat)} {s t:List Nat},CLS d T=some (s,t)→s≠t∧HSHT d s=HSHT d t∧s∈T∧t∈T
  | [],s,t,e=>by simp [CLS] at e
  | x :: T,s,t,e=>by
    have rcc:CLS d T=some (s,t)→s≠t∧HSHT d s=HSHT d t∧s∈x :: T∧t∈x :: T:=fun e=>by
      obtain ⟨a,b,c1,c2⟩:=z8U e
      exact ⟨a,b,List.mem_cons_of_mem _ c1,List.mem_cons_of_mem _ c2⟩
    rw [CLS] at e
    cases hf:FST d T (HSHT d x) with
    | none=>rw [hf] at e;exact rcc e
    | some y=>
      rw [hf] at e
      dsimp only at e
      by_cases hy:y=x
      · rw [if_pos hy] at e;exact rcc e
      · rw [if_neg hy] at e
        simp only [Option.some.injEq,Prod.mk.injEq] at e
        obtain ⟨rfl,rfl⟩:=e
        exact ⟨hy,(z5N hf).2,List.mem_cons_of_mem _ (z5N hf).1,List.mem_cons_self ..⟩
theorem INJ.new {d:Int} {T:List (List Nat)} {t:List Nat} (h:INJ d T) (hn:∀ s∈T,HSHT d s≠HSHT d t):INJ d (t :: T):=by
  intro a ha b hb e
  rcases List.mem_cons.1 ha with ea | ha1
  · rcases List.mem_cons.1 hb with eb | hb1
    · rw [ea,eb]
    · rw [ea] at e
      exact absurd e.symm (hn b hb1)
  · rcases List.mem_cons.1 hb with eb | hb1
    · rw [eb] at e
      exact absurd e (hn a ha1)
    · exact h a ha1 b hb1 e
theorem INJ.again {d:Int} {T:List (List Nat)} {t:List Nat} (h:INJ d T) (ht:t∈T):INJ d (t :: T):=by
  have sub:∀ a∈t :: T,a∈T:=fun a ha=>by
    rcases List.mem_cons.1 ha with rfl | ha
    · exact ht
    · exact ha
  exact fun a ha b hb e=>h a (sub a ha) b (sub b hb) e
theorem z5O {d:Int}:∀ {T:List (List Nat)},CLS d T=none→INJ d T
  | [],_=>fun _ h=>by simp at h
  | x :: T,e=>by
    rw [CLS] at e
    cases hf:FST d T (HSHT d x) with
    | none=>rw [hf] at e;exact (z5O e).new (zeD hf)
    | some y=>
      rw [hf] at e
      dsimp only at e
      by_cases hy:y=x
      · rw [if_pos hy] at e;exact (z5O e).again (hy ▸ (z5N hf).1)
      · rw [if_neg hy] at e;cases e
def TOLD (w:World) (base top:Nat) (ok:Nat→Prop) (b g:Nat) (A B:Value) (s t:List Nat):Prop:=∃ gA cA gB cB,A=.slice (some ⟨gA,0,none⟩) s.length cA∧B=.slice (some ⟨gB,0,none⟩) t.length cB∧OWNT w base gA cA s∧OWNT w base gB cB t∧gA≠gB∧(gA<top∧ok gA)∧(gB<top∧ok gB)∧gA≠b∧gA≠g∧gB≠b∧gB≠g
theorem TOLD.at {w w':World} {base top b g:Nat} {ok:Nat→Prop} {A B:Value} {s t:List Nat} (h:TOLD w base top ok b g A B s t) {top':Nat} (ht:top≤top') (hk:∀ k,k<top→k≠b→k≠g→w'.heap[k]?=w.heap[k]?):TOLD w' base top' ok b g A B s t:=by
  obtain ⟨gA,cA,gB,cB,e1,e2,o1,o2,n1,l1,l2,m1,m2,m3,m4⟩:=h
  exact ⟨gA,cA,gB,cB,e1,e2,o1.at (hk _ l1.1 m1 m2),o2.at (hk _ l2.1 m3 m4),n1,⟨by omega,l1.2⟩,⟨by omega,l2.2⟩,m1,m2,m3,m4⟩
structure MET (w:World) (base top:Nat) (ok:Nat→Prop) (b g:Nat) (d:Int) (T:List (List Nat)):Prop where
  hb:base≤b∧b<top
  hg:base≤g∧g<top
  ne:b≠g
  htop:top≤w.heap.size
  blk:∃ a1 n1 c1 a2 n2 c2,Has w b #[.int .i64 d,.map (some g),.slice a1 n1 c1,.slice a2 n2 c2,.bool (CLS d T).isSome] 61∧∀ s t,CLS d T=some (s,t)→TOLD w base top ok b g (.slice a1 n1 c1) (.slice a2 n2 c2) s t
  map:∃ D:DataW Value,w.ownsMap Tryz.prog 24 RV g T.length D∧(∀ h,IsH h→FST d T h=none→Maps.has D (HKL h)=false)∧∀ h t,IsH h→FST d T h=some t→Maps.has D (HKL h)=true∧∃ gt c,D.atKey (HKL h) (.held (.slice none 0 0))=.held (.slice (some ⟨gt,0,none⟩) t.length c)∧OWNT w base gt c t∧(gt<top∧ok gt)∧gt≠b∧gt≠g
theorem OWNT.cells {w:World} {base g c:Nat} {t:List Nat} (h:OWNT w base g c t):∃ o:Obj,w.heap[g]?=some o∧o.isCells=true:=by
  rcases h.1.2 with ⟨e,_⟩ | ⟨g2,cap,cur,e,_,e3,_⟩
  · cases e
  · cases e;exact ⟨_,e3,rfl⟩
theorem MET.keepc {w w':World} {base top b g:Nat} {ok:Nat→Prop} {d:Int} {T:List (List Nat)} (h:MET w base top ok b g d T) (hk:∀ k,k<top→(k=b∨k=g∨ok k∧∃ o:Obj,w.heap[k]?=some o∧o.isCells=true)→w'.heap[k]?=w.heap[k]?) {top':Nat} (ht:top≤top') (hs:top'≤w'.heap.size):MET w' base top' ok b g d T:=by
  obtain ⟨a1,n1,c1,a2,n2,c2,h1,h2⟩:=h.blk
  obtain ⟨D,m1,m2,m3⟩:=h.map
  refine ⟨⟨h.hb.1,by have:=h.hb.2;omega⟩,⟨h.hg.1,by have:=h.hg.2;omega⟩,h.ne,hs,⟨a1,n1,c1,a2,n2,c2,(hk b h.hb.2 (.inl rfl)).trans h1,fun s t e=>?_⟩,D,?_,m2,fun x t hx e=>?_⟩
  · obtain ⟨gA,cA,gB,cB,e1,e2,o1,o2,n1,l1,l2,m1,m2,m3,m4⟩:=h2 s t e
    exact ⟨gA,cA,gB,cB,e1,e2,o1.at (hk _ l1.1 (.inr (.inr ⟨l1.2,o1.cells⟩))),o2.at (hk _ l2.1 (.inr (.inr ⟨l2.2,o2.cells⟩))),n1,⟨by omega,l1.2⟩,⟨by omega,l2.2⟩,m1,m2,m3,m4⟩
  · obtain ⟨es,clock,a1,r⟩:=m1
    exact ⟨es,clock,(hk g h.hg.2 (.inr (.inl rfl))).trans a1,r⟩
  · obtain ⟨a0,gt,c,a3,a4,a5,a6,a7⟩:=m3 x t hx e
    exact ⟨a0,gt,c,a3,a4.at (hk _ a5.1 (.inr (.inr ⟨a5.2,a4.cells⟩))),⟨by omega,a5.2⟩,a6,a7⟩
theorem MET.sub {w:World} {base top b g:Nat} {ok ok':Nat→Prop} {d:Int} {T:List (List Nat)} (h:MET w base top ok b g d T) (hk:∀ k,k<top→ok k→ok' k):MET w base top ok' b g d T:=by
  obtain ⟨a1,n1,c1,a2,n2,c2,h1,h2⟩:=h.blk
  obtain ⟨D,m1,m2,m3⟩:=h.map
  refine ⟨h.hb,h.hg,h.ne,h.htop,⟨a1,n1,c1,a2,n2,c2,h1,fun s t e=>?_⟩,D,m1,m2,fun x t hx e=>?_⟩
  · obtain ⟨gA,cA,gB,cB,e1,e2,o1,o2,n1,l1,l2,r⟩:=h2 s t e
    exact ⟨gA,cA,gB,cB,e1,e2,o1,o2,n1,⟨l1.1,hk _ l1.1 l1.2⟩,⟨l2.1,hk _ l2.1 l2.2⟩,r⟩
  · obtain ⟨a0,gt,c,a3,a4,a5,r⟩:=m3 x t hx e
    exact ⟨a0,gt,c,a3,a4,⟨a5.1,hk _ a5.1 a5.2⟩,r⟩
theorem MET.keep {w w':World} {base top b g:Nat} {ok:Nat→Prop} {d:Int} {T:List (List Nat)} (h:MET w base top ok b g d T) (hk:∀ k,k<top→w'.heap[k]?=w.heap[k]?) {top':Nat} (ht:top≤top') (hs:top'≤w'.heap.size):MET w' base top' ok b g d T:=h.keepc (fun k a _=>hk k a) ht hs
theorem MET.below {w w':World} {base top b g:Nat} {ok:Nat→Prop} {d:Int} {T:List (List Nat)} (h:MET w base top ok b g d T) (hb:Below w.heap.size w w'):MET w' base top ok b g d T:=h.keep (fun k hk=>hb.block k (Nat.lt_of_lt_of_le hk h.htop)) (Nat.le_refl _) (Nat.le_trans h.htop hb.size)
theorem zeE (w:World):(zeroValue 25).run Tryz.prog w=.ok (.slice none 0 0) w:=by kernel_rfl
theorem MET.look {w:World} {base top b g:Nat} {ok:Nat→Prop} {d:Int} {T:List (List Nat)} (h:MET w base top ok b g d T) {x:List Int} (hx:IsH x):
    (∃ gt c t,FST d T x=some t∧OWNT w base gt c t∧(gt<top∧ok gt)∧gt≠b∧gt≠g∧(Instr.lookup 59 (.map (some g)) (.agg (z01 x).toArray) true).run Tryz.prog w=.ok (.tuple #[.slice (some ⟨gt,0,none⟩) t.length c,.bool true]) w)∨
    (FST d T x=none∧∃ v,(Instr.lookup 59 (.map (some g)) (.agg (z01 x).toArray) true).run Tryz.prog w=.ok (.tuple #[v,.bool false]) w):=by
  obtain ⟨D,m1,m2,m3⟩:=h.map
  obtain ⟨v,ps,r1,r2⟩:=m1.look_ok lawH Tryz.underlying59 (zeE w) (show RV (.slice none 0 0)=some (.held (.slice none 0 0),[]) from rfl) (z3V hx)
  cases e:FST d T x with
  | some t=>
    obtain ⟨a0,gt,c,a3,a4,a5,a6,a7⟩:=m3 x t hx e
    refine .inl ⟨gt,c,t,rfl,a4,a5,a6,a7,?_⟩
    rw [a3] at r2
    simp only [RV,Option.some.injEq,Prod.mk.injEq,DataW.held.injEq] at r2
    rw [r1,a0,r2.1]
  | none=>
    refine .inr ⟨rfl,v,?_⟩
    rw [r1,m2 x hx e]
theorem MET.store {w:World} {base top b g:Nat} {ok:Nat→Prop} {d:Int} {T:List (List Nat)} (h:MET w base top ok b g d T) (hT:T.length≤100000) {gt c:Nat} {t:List Nat} (ht:OWNT w base gt c t) (htop:top≤gt) (hok:ok gt) (hn:FST d T (HSHT d t)=none) {top':Nat} (hgt':gt<top') (hs':top'≤w.heap.size):∃ w',(Instr.mapUpdate 59 (.map (some g)) (.agg (z01 (HSHT d t)).toArray) (.slice (some ⟨gt,0,none⟩) t.length c)).run Tryz.prog w=.ok () w'∧MET w' base top' ok b g d (t :: T)∧STEPM b g w w'∧∀ k,k<w.heap.size→k≠g→w'.heap[k]?=w.heap[k]?:=by
  obtain ⟨a1,n1,c1,a2,n2,c2,h1,h2⟩:=h.blk
  obtain ⟨D,m1,m2,m3⟩:=h.map
  obtain ⟨w',r1,r2,r3⟩:=m1.update lawH Tryz.underlying59 (by unfold maxLen;omega) (z3V (z3U d t)) (show RV (.slice (some ⟨gt,0,none⟩) t.length c)=some (.held (.slice (some ⟨gt,0,none⟩) t.length c),[]) from rfl)
  have hgt:=ht.lt
  have hk:∀ k,k<w.heap.size→k≠g→w'.heap[k]?=w.heap[k]?:=fun k hk hne=>r3.block k hk (fun e=>hne (by simpa using e))
  have hsz:=r3.size
  have htp:=h.htop
  have b1:=h.hb
  have g1:=h.hg
  have hkey:WideAt.IsKeyLit (HKL (HSHT d t)):=lawH.key (z3V (z3U d t))
  have ec:CLS d (t :: T)=CLS d T:=by rw [CLS,hn]
  refine ⟨w',r1,⟨⟨b1.1,by omega⟩,⟨g1.1,by omega⟩,h.ne,by omega,⟨a1,n1,c1,a2,n2,c2,by rw [ec];exact (hk b (by omega) h.ne).trans h1,fun s x e=>(h2 s x (by rw [← ec];exact e)).at (by omega) (fun k a1 _ a3=>hk k (by omega) a3)⟩,_,r2,fun x hx e=>?_,fun x s hx e=>?_⟩,STEPM.grown r3,hk⟩
  · rw [z4h] at e
    simp only [Option.or_eq_none_iff] at e
    have e2:HKL x≠HKL (HSHT d t):=fun e2=>by
      have:=zaz hx (z3U d t) e2
      rw [if_pos this.symm] at e
      cases e.2
    rw [Maps.has_put_other e2]
    exact m2 x hx e.1
  · by_cases e2:HKL x=HKL (HSHT d t)
    · have:=zaz hx (z3U d t) e2
      subst this
      rw [z4h,hn,if_pos rfl] at e
      simp only [Option.none_or,Option.some.injEq] at e
      subst e
      exact ⟨Maps.has_put_same m1.isMap hkey _,gt,c,Maps.atKey_put_same m1.isMap hkey _ _,ht.at (hk _ (by omega) (by omega)),⟨by omega,hok⟩,by omega,by omega⟩
    · rw [z4h,if_neg (fun e3=>e2 (by rw [e3])),Option.or_none] at e
      obtain ⟨a0,gs,cs,a3,a4,a5,a6,a7⟩:=m3 x s hx e
      exact ⟨by rw [Maps.has_put_other e2];exact a0,gs,cs,by rw [Maps.atKey_put_other e2];exact a3,a4.at (hk _ (by omega) (by omega)),⟨by omega,a5.2⟩,a6,a7⟩
theorem z3w {d:Int} {T:List (List Nat)} {s t:List Nat} (hs:FST d T (HSHT d t)=some s) (x:List Int):FST d (t :: T) x=FST d T x:=by
  rw [z4h]
  by_cases e:HSHT d t=x
  · rw [← e,hs];rfl
  · rw [if_neg e,Option.or_none]
theorem MET.again {w:World} {base top b g:Nat} {ok:Nat→Prop} {d:Int} {T:List (List Nat)} (h:MET w base top ok b g d T) {t:List Nat} (ht:FST d T (HSHT d t)=some t) {top':Nat} (ht':top≤top') (hs':top'≤w.heap.size):MET w base top' ok b g d (t :: T):=by
  have h:=h.keep (w':=w) (fun _ _=>rfl) ht' hs'
  obtain ⟨a1,n1,c1,a2,n2,c2,h1,h2⟩:=h.blk
  obtain ⟨D,m1,m2,m3⟩:=h.map
  have ec:CLS d (t :: T)=CLS d T:=by rw [CLS,ht];exact if_pos rfl
  refine ⟨h.hb,h.hg,h.ne,h.htop,⟨a1,n1,c1,a2,n2,c2,by rw [ec];exact h1,fun s x e=>h2 s x (by rw [← ec];exact e)⟩,D,m1.mono (by simp),fun x hx e=>?_,fun x s hx e=>?_⟩
  · rw [z3w ht] at e
    exact m2 x hx e
  · rw [z3w ht] at e
    exact m3 x s hx e
theorem MET.found {w:World} {base top b g:Nat} {ok:Nat→Prop} {d:Int} {T:List (List Nat)} (h:MET w base top ok b g d T) {gs cs gt ct:Nat} {s t:List Nat} (hs:OWNT w base gs cs s) (ht:OWNT w base gt ct t) (hst:s≠t) (he:FST d T (HSHT d t)=some s) (l1:gs<top∧ok gs) (n1:gs≠b) (n2:gs≠g) (l2:top≤gt) (hok:ok gt) {top':Nat} (hgt':gt<top') (hs':top'≤w.heap.size):MET (w.setRow b #[.int .i64 d,.map (some g),.slice (some ⟨gs,0,none⟩) s.length cs,.slice (some ⟨gt,0,none⟩) t.length ct,.bool true]) base top' ok b g d (t :: T):=by
  have htp:=h.htop
  have b1:=h.hb
  have g1:=h.hg
  have hgt:=ht.lt
  obtain ⟨_,_,_,_,_,_,h1, -⟩:=h.blk
  obtain ⟨D,m1,m2,m3⟩:=h.map
  have ec:CLS d (t :: T)=some (s,t):=by rw [CLS,he];exact if_neg hst
  have hk:∀ k,k≠b→(w.setRow b #[.int .i64 d,.map (some g),.slice (some ⟨gs,0,none⟩) s.length cs,.slice (some ⟨gt,0,none⟩) t.length ct,.bool true]).heap[k]?=w.heap[k]?:=fun k hne=>setRow_other w b k _ hne
  refine ⟨⟨b1.1,by omega⟩,⟨g1.1,by omega⟩,h.ne,by simpa using hs',⟨_,_,_,_,_,_,by rw [ec];exact Has.row h1 _,fun s' t' e=>?_⟩,D,?_,fun x hx e=>?_,fun x y hx e=>?_⟩
  · rw [ec] at e
    simp only [Option.some.injEq,Prod.mk.injEq] at e
    obtain ⟨rfl,rfl⟩:=e
    exact ⟨gs,cs,gt,ct,rfl,rfl,hs.at (hk _ n1),ht.at (hk _ (by omega)),by omega,⟨by omega,l1.2⟩,⟨by omega,hok⟩,n1,n2,by omega,by omega⟩
  · obtain ⟨es,clock,a1,a2,a3,r⟩:=m1
    exact ⟨es,clock,(hk g h.ne.symm).trans a1,a2,by simp;omega,r⟩
  · rw [z3w he] at e
    exact m2 x hx e
  · rw [z3w he] at e
    obtain ⟨a0,gx,cx,a3,a4,a5,a6,a7⟩:=m3 x y hx e
    exact ⟨a0,gx,cx,a3,a4.at (hk _ a6),⟨by omega,a5.2⟩,a6,a7⟩
end Go.Proofs.YthpdlnbbbcgemaaGreatDoor

namespace Go.Proofs.YthpdlnbbbcgemaaGreatDoor
open Go.RowKit
set_option maxRecDepth 100000
theorem zfT {P:Program} {o:Oper} {a:Act} {w:World} {K K':Act→World→Prop} {Q Q':Exit→Act→World→Prop} (h:∀ a w,K a w→K' a w) (hq:∀ c a w,Q (.panic c) a w→Q' (.panic c) a w) (hl:LetsOut Q→LetsOut Q') (hh:o.wp P a w K Q):o.wp P a w K' Q':=by
  unfold Oper.wp at *
  generalize (execOp a.eval o).run P w=r at *
  cases r with
  | ok n w'=>
    cases n <;> simp only [Oper.upon] at hh ⊢ <;>
      first
        | exact h _ _ hh
        | exact Calls.mono hh (fun e w'' he=>by cases e <;> first | exact h _ _ he | exact hq _ _ _ he | exact hl he)
        | exact Rows.mono hh (fun _ _ he=>h _ _ he)
  | halt x w'=>cases x <;> simp only [Oper.upon] at hh ⊢ <;> first | exact hq _ _ _ hh | exact hh
theorem z3l {P:Program} {ops:Array Oper} {o:Oper} {a:Act} {w:World} {K:Act→World→Prop} {Q:Exit→Act→World→Prop} {E:Prop} (hw:Region.wanted o (yielded ops a.tmps)=true)
    (h:wpList P ops (fun e a w=>e=Exit.normal∧K a w) [o] a w):if Region.wanted o (yielded ops a.tmps)=true then Oper.wp P o a w K Q else E:=by
  rw [if_pos hw]
  unfold wpList at h
  rw [if_pos hw] at h
  rcases h with h | ⟨_,a',w',h',_⟩
  · exact zfT (fun a w h=>by unfold wpList at h;exact h.2) (fun c a w h=>by cases h.1) (fun h=>by obtain ⟨_,_,h,_⟩:=h;cases h) h
  · cases h'
theorem z0Z {ops:Array Oper} {o:Oper} {a:Act} {w w':World} {K:Act→World→Prop} {Q:Exit→Act→World→Prop} {E:Prop} {v:Value} (hw:Region.wanted o (yielded ops a.tmps)=true)
    (hrun:(execOp a.eval o).run Tryz.prog w=.ok (.value v) w') (h:K (a.put o.dst v) w'):if Region.wanted o (yielded ops a.tmps)=true then Oper.wp Tryz.prog o a w K Q else E:=by
  rw [if_pos hw]
  unfold Oper.wp
  rw [hrun]
  exact h
end Go.Proofs.YthpdlnbbbcgemaaGreatDoor

namespace Go.Proofs.YthpdlnbbbcgemaaGreatDoor
open Go.RowKit
set_option maxRecDepth 100000
def z8V:Array Oper:=#[⟨some 16,.move (.tmp 0),55,"met.go:31",#[],none⟩,⟨some 17,.nilCheck (.tmp 16),0,"met.go:31",#[⟨0,.data⟩],none⟩,⟨some 18,.fieldAddr 61 (.tmp 17) 1,0,"met.go:31",#[⟨1,.data⟩],none⟩,⟨some 19,.load 59 (.tmp 18),59,"met.go:31",#[⟨2,.data⟩],none⟩,⟨some 20,.load 24 (.tmp 5),24,"met.go:31",#[],none⟩,⟨some 21,.lookup 59 (.tmp 19) (.tmp 20) true,123,"met.go:31",#[⟨3,.data⟩,⟨4,.data⟩],none⟩,⟨some 15,.move (.tmp 21),123,"met.go:31",#[⟨5,.data⟩],none⟩,⟨some 22,.extract (.tmp 15) 0,25,"met.go:31",#[⟨6,.data⟩],none⟩,⟨some 23,.extract (.tmp 15) 1,4,"met.go:31",#[⟨6,.data⟩,{on:=9,ground:=.gcOnly Departure.lateStores}],none⟩,⟨some 6,.assign (.tmp 22),25,"met.go:31",#[⟨7,.data⟩,⟨0,.phase⟩,⟨1,.phase⟩,⟨2,.phase⟩,⟨3,.phase⟩,⟨4,.phase⟩,⟨5,.phase⟩,⟨6,.phase⟩,⟨7,.phase⟩,{on:=8,ground:=.textOnly Departure.lateStores}],none⟩,⟨some 7,.assign (.tmp 23),4,"met.go:31",#[⟨8,.data⟩,⟨9,.chain⟩,⟨0,.phase⟩,⟨1,.phase⟩,⟨2,.phase⟩,⟨3,.phase⟩,⟨4,.phase⟩,⟨5,.phase⟩,⟨6,.phase⟩,⟨7,.phase⟩,⟨8,.phase⟩,⟨9,.phase⟩],none⟩]
set_option maxHeartbeats 2000000 in
theorem zfl {Q:Exit→Act→World→Prop} {u2 u3 u4 u6 u7 u8 u9 u10 u11 u12 u13 u14 u15 u16 u17 u18 u19 u20 u21 u22 u23 u24 u25 u26 u27 u28 u29 u30 u31 u32 u33 u34 u35 u36 u37 u38 u39 u40 u41 u42 u43 u44 u45:Value} (W:World) (b g bh n c:Nat) (a:Option Addr) (H:List Int) (lH:H.length=32) (v:Value) (o:Bool) (J:World→Prop) (h0:J W.drew) (hS:∀ w,J w→(fun w:World=>w.cell? ⟨b,1,none⟩=some (.map (some g))∧w.rangeAt bh 0 (z01 H)∧(Instr.lookup 59 (.map (some g)) (.agg (z01 H).toArray) true).run Tryz.prog w=.ok (.tuple #[v,.bool o]) w) w) (hQ:∀ c (a:Act) (t:Tmp) (v:Value) w,Q (.panic c) (a.put (some t) v) w→Q (.panic c) a w)
    (hfin:∀ (w:World),(J w)→Q .normal {tmps:=#[.pointer (some ⟨b,0,none⟩),.slice a n c,u2,u3,u4,.pointer (some ⟨bh,0,none⟩),v,.bool o,u8,u9,u10,u11,u12,u13,u14,.tuple #[v,.bool o],.pointer (some ⟨b,0,none⟩),.pointer (some ⟨b,0,none⟩),.pointer (some ⟨b,1,none⟩),.map (some g),.agg (z01 H).toArray,.tuple #[v,.bool o],v,.bool o,u24,u25,u26,u27,u28,u29,u30,u31,u32,u33,u34,u35,u36,u37,u38,u39,u40,u41,u42,u43,u44,u45],defers:=[]} w):(Code.region 2 z8V true).wp Tryz.prog Q {tmps:=#[.pointer (some ⟨b,0,none⟩),.slice a n c,u2,u3,u4,.pointer (some ⟨bh,0,none⟩),u6,u7,u8,u9,u10,u11,u12,u13,u14,u15,u16,u17,u18,u19,u20,u21,u22,u23,u24,u25,u26,u27,u28,u29,u30,u31,u32,u33,u34,u35,u36,u37,u38,u39,u40,u41,u42,u43,u44,u45],defers:=[]} W:=by
  have kst:∀ (w:World),(J w)→wpAnyH Tryz.prog .any z8V Q (fun w:World=>w.cell? ⟨b,1,none⟩=some (.map (some g))∧w.rangeAt bh 0 (z01 H)∧(Instr.lookup 59 (.map (some g)) (.agg (z01 H).toArray) true).run Tryz.prog w=.ok (.tuple #[v,.bool o]) w) 0 #[true,true,true,true,true,true,true,true,true,true,true] {tmps:=#[.pointer (some ⟨b,0,none⟩),.slice a n c,u2,u3,u4,.pointer (some ⟨bh,0,none⟩),v,.bool o,u8,u9,u10,u11,u12,u13,u14,.tuple #[v,.bool o],.pointer (some ⟨b,0,none⟩),.pointer (some ⟨b,0,none⟩),.pointer (some ⟨b,1,none⟩),.map (some g),.agg (z01 H).toArray,.tuple #[v,.bool o],v,.bool o,u24,u25,u26,u27,u28,u29,u30,u31,u32,u33,u34,u35,u36,u37,u38,u39,u40,u41,u42,u43,u44,u45],defers:=[]} w:=fun  w hp=>by
    exact wpAnyH_done (by kernel_rfl) (hfin  w hp) _
  have hp:=h0
  have hww:(fun w:World=>w.cell? ⟨b,1,none⟩=some (.map (some g))∧w.rangeAt bh 0 (z01 H)∧(Instr.lookup 59 (.map (some g)) (.agg (z01 H).toArray) true).run Tryz.prog w=.ok (.tuple #[v,.bool o]) w) W.drew:=hS _ hp
  have last:=kst W.drew hp
  have z:wpAnyH Tryz.prog .any z8V Q (fun w:World=>w.cell? ⟨b,1,none⟩=some (.map (some g))∧w.rangeAt bh 0 (z01 H)∧(Instr.lookup 59 (.map (some g)) (.agg (z01 H).toArray) true).run Tryz.prog w=.ok (.tuple #[v,.bool o]) w) 11 #[false,false,false,false,false,false,false,false,false,false,false] {tmps:=#[.pointer (some ⟨b,0,none⟩),.slice a n c,u2,u3,u4,.pointer (some ⟨bh,0,none⟩),u6,u7,u8,u9,u10,u11,u12,u13,u14,u15,u16,u17,u18,u19,u20,u21,u22,u23,u24,u25,u26,u27,u28,u29,u30,u31,u32,u33,u34,u35,u36,u37,u38,u39,u40,u41,u42,u43,u44,u45],defers:=[]} W.drew:=by
    refine wpAnyH_take (i:=0) (oi:=⟨some 16,.move (.tmp 0),55,"met.go:31",#[],none⟩) (v:=.pointer (some ⟨b,0,none⟩)) rfl (by kernel_rfl) (by kernel_rfl) (by kernel_rfl) (fun _ _ _ h=>hQ _ _ _ _ _ h) (Yields.yieldsIf (Or.inl ⟨by rfl,fun W=>by go_simp⟩)) hww ?_
    simp only [Act.put,List.setIfInBounds_toArray,List.set_cons_zero,List.set_cons_succ]
    refine wpAnyH_take (i:=1) (oi:=⟨some 17,.nilCheck (.tmp 16),0,"met.go:31",#[⟨0,.data⟩],none⟩) (v:=.pointer (some ⟨b,0,none⟩)) rfl (by kernel_rfl) (by kernel_rfl) (by kernel_rfl) (fun _ _ _ h=>hQ _ _ _ _ _ h) (Yields.yieldsIf (Or.inl ⟨by rfl,fun W=>by go_simp⟩)) hww ?_
    simp only [Act.put,List.setIfInBounds_toArray,List.set_cons_zero,List.set_cons_succ]
    refine wpAnyH_take (i:=2) (oi:=⟨some 18,.fieldAddr 61 (.tmp 17) 1,0,"met.go:31",#[⟨1,.data⟩],none⟩) (v:=.pointer (some ⟨b,1,none⟩)) rfl (by kernel_rfl) (by kernel_rfl) (by kernel_rfl) (fun _ _ _ h=>hQ _ _ _ _ _ h) (Yields.yieldsIf (Or.inl ⟨by rfl,fun W=>by go_simp⟩)) hww ?_
    simp only [Act.put,List.setIfInBounds_toArray,List.set_cons_zero,List.set_cons_succ]
    refine wpAnyH_take (i:=3) (oi:=⟨some 19,.load 59 (.tmp 18),59,"met.go:31",#[⟨2,.data⟩],none⟩) (v:=.map (some g)) rfl (by kernel_rfl) (by kernel_rfl) (by kernel_rfl) (fun _ _ _ h=>hQ _ _ _ _ _ h) (Or.inl ⟨by rfl,fun w hw=>by have hx:=hw.1;go_simp⟩) hww ?_
    simp only [Act.put,List.setIfInBounds_toArray,List.set_cons_zero,List.set_cons_succ]
    refine wpAnyH_take (i:=4) (oi:=⟨some 20,.load 24 (.tmp 5),24,"met.go:31",#[],none⟩) (v:=.agg (z01 H).toArray) rfl (by kernel_rfl) (by kernel_rfl) (by kernel_rfl) (fun _ _ _ h=>hQ _ _ _ _ _ h) (yieldsIf_load_mid (by rfl) 24 (.tmp 5) rfl bh 0 rfl (z01 H) _ (fun w h=>h.2.1) Tryz.underlying24 rfl (z0f lH)) hww ?_
    simp only [Act.put,List.setIfInBounds_toArray,List.set_cons_zero,List.set_cons_succ]
    refine wpAnyH_take (i:=5) (oi:=⟨some 21,.lookup 59 (.tmp 19) (.tmp 20) true,123,"met.go:31",#[⟨3,.data⟩,⟨4,.data⟩],none⟩) (v:=.tuple #[v,.bool o]) rfl (by kernel_rfl) (by kernel_rfl) (by kernel_rfl) (fun _ _ _ h=>hQ _ _ _ _ _ h) (Or.inl ⟨by rfl,fun w hw=>by have hx:=hw.2.2;go_simp⟩) hww ?_
    simp only [Act.put,List.setIfInBounds_toArray,List.set_cons_zero,List.set_cons_succ]
    refine wpAnyH_take (i:=6) (oi:=⟨some 15,.move (.tmp 21),123,"met.go:31",#[⟨5,.data⟩],none⟩) (v:=.tuple #[v,.bool o]) rfl (by kernel_rfl) (by kernel_rfl) (by kernel_rfl) (fun _ _ _ h=>hQ _ _ _ _ _ h) (Yields.yieldsIf (Or.inl ⟨by rfl,fun W=>by go_simp⟩)) hww ?_
    simp only [Act.put,List.setIfInBounds_toArray,List.set_cons_zero,List.set_cons_succ]
    refine wpAnyH_take (i:=7) (oi:=⟨some 22,.extract (.tmp 15) 0,25,"met.go:31",#[⟨6,.data⟩],none⟩) (v:=v) rfl (by kernel_rfl) (by kernel_rfl) (by kernel_rfl) (fun _ _ _ h=>hQ _ _ _ _ _ h) (Yields.yieldsIf (Or.inl ⟨by rfl,fun W=>by go_simp⟩)) hww ?_
    simp only [Act.put,List.setIfInBounds_toArray,List.set_cons_zero,List.set_cons_succ]
    refine wpAnyH_take (i:=8) (oi:=⟨some 23,.extract (.tmp 15) 1,4,"met.go:31",#[⟨6,.data⟩,{on:=9,ground:=.gcOnly Departure.lateStores}],none⟩) (v:=.bool o) rfl (by kernel_rfl) (by kernel_rfl) (by kernel_rfl) (fun _ _ _ h=>hQ _ _ _ _ _ h) (Yields.yieldsIf (Or.inl ⟨by rfl,fun W=>by go_simp⟩)) hww ?_
    simp only [Act.put,List.setIfInBounds_toArray,List.set_cons_zero,List.set_cons_succ]
    refine wpAnyH_take (i:=9) (oi:=⟨some 6,.assign (.tmp 22),25,"met.go:31",#[⟨7,.data⟩,⟨0,.phase⟩,⟨1,.phase⟩,⟨2,.phase⟩,⟨3,.phase⟩,⟨4,.phase⟩,⟨5,.phase⟩,⟨6,.phase⟩,⟨7,.phase⟩,{on:=8,ground:=.textOnly Departure.lateStores}],none⟩) (v:=v) rfl (by kernel_rfl) (by kernel_rfl) (by kernel_rfl) (fun _ _ _ h=>hQ _ _ _ _ _ h) (Yields.yieldsIf (Or.inl ⟨by rfl,fun W=>by go_simp⟩)) hww ?_
    simp only [Act.put,List.setIfInBounds_toArray,List.set_cons_zero,List.set_cons_succ]
    refine wpAnyH_take (i:=10) (oi:=⟨some 7,.assign (.tmp 23),4,"met.go:31",#[⟨8,.data⟩,⟨9,.chain⟩,⟨0,.phase⟩,⟨1,.phase⟩,⟨2,.phase⟩,⟨3,.phase⟩,⟨4,.phase⟩,⟨5,.phase⟩,⟨6,.phase⟩,⟨7,.phase⟩,⟨8,.phase⟩,⟨9,.phase⟩],none⟩) (v:=.bool o) rfl (by kernel_rfl) (by kernel_rfl) (by kernel_rfl) (fun _ _ _ h=>hQ _ _ _ _ _ h) (Yields.yieldsIf (Or.inl ⟨by rfl,fun W=>by go_simp⟩)) hww ?_
    simp only [Act.put,List.setIfInBounds_toArray,List.set_cons_zero,List.set_cons_succ]
    exact last
  exact wp_region_held_drew (S:=(fun w:World=>w.cell? ⟨b,1,none⟩=some (.map (some g))∧w.rangeAt bh 0 (z01 H)∧(Instr.lookup 59 (.map (some g)) (.agg (z01 H).toArray) true).run Tryz.prog w=.ok (.tuple #[v,.bool o]) w)) (by kernel_rfl) hww (fun _=>z)
def z6k:Array Oper:=#[⟨some 26,.move (.tmp 0),55,"met.go:33",#[],none⟩,⟨some 27,.nilCheck (.tmp 26),0,"met.go:33",#[⟨0,.data⟩],none⟩,⟨some 28,.fieldAddr 61 (.tmp 27) 1,0,"met.go:33",#[⟨1,.data⟩],none⟩,⟨some 29,.load 59 (.tmp 28),59,"met.go:33",#[⟨2,.data⟩],none⟩,⟨some 30,.load 24 (.tmp 5),24,"met.go:33",#[],none⟩,⟨some 31,.move (.tmp 1),25,"met.go:33",#[],none⟩,⟨none,.mapUpdate 59 (.tmp 29) (.tmp 30) (.tmp 31),0,"met.go:33",#[⟨3,.data⟩,⟨4,.data⟩,⟨5,.data⟩,⟨0,.phase⟩,⟨1,.phase⟩,⟨2,.phase⟩,⟨3,.phase⟩,⟨4,.phase⟩,⟨5,.phase⟩],none⟩]
set_option maxHeartbeats 2000000 in
theorem zh9 {Q:Exit→Act→World→Prop} {u2 u3 u4 u6 u7 u8 u9 u10 u11 u12 u13 u14 u15 u16 u17 u18 u19 u20 u21 u22 u23 u24 u25 u26 u27 u28 u29 u30 u31 u32 u33 u34 u35 u36 u37 u38 u39 u40 u41 u42 u43 u44 u45:Value} (W:World) (b g bh n c:Nat) (a:Option Addr) (H:List Int) (lH:H.length=32) (J J':World→Prop) (h0:J W.drew) (hS:∀ w,J w→(fun w:World=>w.cell? ⟨b,1,none⟩=some (.map (some g))∧w.rangeAt bh 0 (z01 H)) w) (hS':∀ w,J' w→(fun w:World=>w.cell? ⟨b,1,none⟩=some (.map (some g))∧w.rangeAt bh 0 (z01 H)) w) (hU:∀ w,J w→∃ w',(Instr.mapUpdate 59 (.map (some g)) (.agg (z01 H).toArray) (.slice a n c)).run Tryz.prog w=.ok () w'∧J' w') (hQ:∀ c (a:Act) (t:Tmp) (v:Value) w,Q (.panic c) (a.put (some t) v) w→Q (.panic c) a w)
    (hfin:∀ (w:World),(J' w)→Q .normal {tmps:=#[.pointer (some ⟨b,0,none⟩),.slice a n c,u2,u3,u4,.pointer (some ⟨bh,0,none⟩),u6,u7,u8,u9,u10,u11,u12,u13,u14,u15,u16,u17,u18,u19,u20,u21,u22,u23,u24,u25,.pointer (some ⟨b,0,none⟩),.pointer (some ⟨b,0,none⟩),.pointer (some ⟨b,1,none⟩),.map (some g),.agg (z01 H).toArray,.slice a n c,u32,u33,u34,u35,u36,u37,u38,u39,u40,u41,u42,u43,u44,u45],defers:=[]} w):(Code.region 4 z6k true).wp Tryz.prog Q {tmps:=#[.pointer (some ⟨b,0,none⟩),.slice a n c,u2,u3,u4,.pointer (some ⟨bh,0,none⟩),u6,u7,u8,u9,u10,u11,u12,u13,u14,u15,u16,u17,u18,u19,u20,u21,u22,u23,u24,u25,u26,u27,u28,u29,u30,u31,u32,u33,u34,u35,u36,u37,u38,u39,u40,u41,u42,u43,u44,u45],defers:=[]} W:=by
  have kst6:∀ (w:World),(J' w)→wpAnyH Tryz.prog .any z6k Q (fun w:World=>w.cell? ⟨b,1,none⟩=some (.map (some g))∧w.rangeAt bh 0 (z01 H)) 0 #[true,true,true,true,true,true,true] {tmps:=#[.pointer (some ⟨b,0,none⟩),.slice a n c,u2,u3,u4,.pointer (some ⟨bh,0,none⟩),u6,u7,u8,u9,u10,u11,u12,u13,u14,u15,u16,u17,u18,u19,u20,u21,u22,u23,u24,u25,.pointer (some ⟨b,0,none⟩),.pointer (some ⟨b,0,none⟩),.pointer (some ⟨b,1,none⟩),.map (some g),.agg (z01 H).toArray,.slice a n c,u32,u33,u34,u35,u36,u37,u38,u39,u40,u41,u42,u43,u44,u45],defers:=[]} w:=fun  w hp=>by
    exact wpAnyH_done (by kernel_rfl) (hfin  w hp) _
  have kst:∀ (w:World),(J w)→wpAnyH Tryz.prog .any z6k Q (fun w:World=>w.cell? ⟨b,1,none⟩=some (.map (some g))∧w.rangeAt bh 0 (z01 H)) 1 #[true,true,true,true,true,true,false] {tmps:=#[.pointer (some ⟨b,0,none⟩),.slice a n c,u2,u3,u4,.pointer (some ⟨bh,0,none⟩),u6,u7,u8,u9,u10,u11,u12,u13,u14,u15,u16,u17,u18,u19,u20,u21,u22,u23,u24,u25,.pointer (some ⟨b,0,none⟩),.pointer (some ⟨b,0,none⟩),.pointer (some ⟨b,1,none⟩),.map (some g),.agg (z01 H).toArray,.slice a n c,u32,u33,u34,u35,u36,u37,u38,u39,u40,u41,u42,u43,u44,u45],defers:=[]} w:=fun  w hp=>by
    refine wpAnyH_ready (rs:=[6]) (by kernel_rfl) (by simp) ?_
    refine AllReadyH.cons (o:=⟨none,.mapUpdate 59 (.tmp 29) (.tmp 30) (.tmp 31),0,"met.go:33",#[⟨3,.data⟩,⟨4,.data⟩,⟨5,.data⟩,⟨0,.phase⟩,⟨1,.phase⟩,⟨2,.phase⟩,⟨3,.phase⟩,⟨4,.phase⟩,⟨5,.phase⟩],none⟩) rfl (fun KQ hKQ=>?_) ?_
    · exact (let ⟨w',h1,h2⟩:=hU w hp;z2i (by rfl) (by go_simp) (have hp:(fun (w:World)=>(J' w))  w':=h2;hKQ.out _ _ (hS' _ hp) (fun _=>kst6  _ hp)))
    exact AllReadyH.nil
  have hp:=h0
  have hww:(fun w:World=>w.cell? ⟨b,1,none⟩=some (.map (some g))∧w.rangeAt bh 0 (z01 H)) W.drew:=hS _ hp
  have last:=kst W.drew hp
  have z:wpAnyH Tryz.prog .any z6k Q (fun w:World=>w.cell? ⟨b,1,none⟩=some (.map (some g))∧w.rangeAt bh 0 (z01 H)) 7 #[false,false,false,false,false,false,false] {tmps:=#[.pointer (some ⟨b,0,none⟩),.slice a n c,u2,u3,u4,.pointer (some ⟨bh,0,none⟩),u6,u7,u8,u9,u10,u11,u12,u13,u14,u15,u16,u17,u18,u19,u20,u21,u22,u23,u24,u25,u26,u27,u28,u29,u30,u31,u32,u33,u34,u35,u36,u37,u38,u39,u40,u41,u42,u43,u44,u45],defers:=[]} W.drew:=by
    refine wpAnyH_take (i:=0) (oi:=⟨some 26,.move (.tmp 0),55,"met.go:33",#[],none⟩) (v:=.pointer (some ⟨b,0,none⟩)) rfl (by kernel_rfl) (by kernel_rfl) (by kernel_rfl) (fun _ _ _ h=>hQ _ _ _ _ _ h) (Yields.yieldsIf (Or.inl ⟨by rfl,fun W=>by go_simp⟩)) hww ?_
    simp only [Act.put,List.setIfInBounds_toArray,List.set_cons_zero,List.set_cons_succ]
    refine wpAnyH_take (i:=1) (oi:=⟨some 27,.nilCheck (.tmp 26),0,"met.go:33",#[⟨0,.data⟩],none⟩) (v:=.pointer (some ⟨b,0,none⟩)) rfl (by kernel_rfl) (by kernel_rfl) (by kernel_rfl) (fun _ _ _ h=>hQ _ _ _ _ _ h) (Yields.yieldsIf (Or.inl ⟨by rfl,fun W=>by go_simp⟩)) hww ?_
    simp only [Act.put,List.setIfInBounds_toArray,List.set_cons_zero,List.set_cons_succ]
    refine wpAnyH_take (i:=2) (oi:=⟨some 28,.fieldAddr 61 (.tmp 27) 1,0,"met.go:33",#[⟨1,.data⟩],none⟩) (v:=.pointer (some ⟨b,1,none⟩)) rfl (by kernel_rfl) (by kernel_rfl) (by kernel_rfl) (fun _ _ _ h=>hQ _ _ _ _ _ h) (Yields.yieldsIf (Or.inl ⟨by rfl,fun W=>by go_simp⟩)) hww ?_
    simp only [Act.put,List.setIfInBounds_toArray,List.set_cons_zero,List.set_cons_succ]
    refine wpAnyH_take (i:=3) (oi:=⟨some 29,.load 59 (.tmp 28),59,"met.go:33",#[⟨2,.data⟩],none⟩) (v:=.map (some g)) rfl (by kernel_rfl) (by kernel_rfl) (by kernel_rfl) (fun _ _ _ h=>hQ _ _ _ _ _ h) (Or.inl ⟨by rfl,fun w hw=>by have hx:=hw.1;go_simp⟩) hww ?_
    simp only [Act.put,List.setIfInBounds_toArray,List.set_cons_zero,List.set_cons_succ]
    refine wpAnyH_take (i:=4) (oi:=⟨some 30,.load 24 (.tmp 5),24,"met.go:33",#[],none⟩) (v:=.agg (z01 H).toArray) rfl (by kernel_rfl) (by kernel_rfl) (by kernel_rfl) (fun _ _ _ h=>hQ _ _ _ _ _ h) (yieldsIf_load_mid (by rfl) 24 (.tmp 5) rfl bh 0 rfl (z01 H) _ (fun w h=>h.2) Tryz.underlying24 rfl (z0f lH)) hww ?_
    simp only [Act.put,List.setIfInBounds_toArray,List.set_cons_zero,List.set_cons_succ]
    refine wpAnyH_take (i:=5) (oi:=⟨some 31,.move (.tmp 1),25,"met.go:33",#[],none⟩) (v:=.slice a n c) rfl (by kernel_rfl) (by kernel_rfl) (by kernel_rfl) (fun _ _ _ h=>hQ _ _ _ _ _ h) (Yields.yieldsIf (Or.inl ⟨by rfl,fun W=>by go_simp⟩)) hww ?_
    simp only [Act.put,List.setIfInBounds_toArray,List.set_cons_zero,List.set_cons_succ]
    exact last
  exact wp_region_held_drew (S:=(fun w:World=>w.cell? ⟨b,1,none⟩=some (.map (some g))∧w.rangeAt bh 0 (z01 H))) (by kernel_rfl) hww (fun _=>z)
end Go.Proofs.YthpdlnbbbcgemaaGreatDoor
