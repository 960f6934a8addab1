/- Texts of ClashForks, one behind the other: ClashBag. -/
import Derived.Sort.CutIn
import Derived.Test.YthpdlnbbbcgemaaGreatDoorClashForksP21
import Derived.Test.YthpdlnbbbcgemaaGreatDoorClashForksP23
namespace Go.Proofs.YthpdlnbbbcgemaaGreatDoor
open Go.RowKit Go.Shelf
set_option maxRecDepth 100000
attribute [local go_sem] Oper.semAt_some
theorem z4k {h:List Int} (hh:IsH h):HX.Small8 (NATS h):=fun x hx=>by
  obtain ⟨i,_,rfl⟩:=List.mem_map.1 hx
  exact z1c hh i
theorem z6p {m:Nat} (hm:m<256) {l r:List Int} (hl:IsH l) (hr:IsH r):HX.Small8 (m :: (NATS l ++ NATS r)):=fun x hx=>by
  rcases List.mem_cons.1 hx with rfl | hx
  · exact hm
  · rcases List.mem_append.1 hx with hx | hx
    · exact z4k hl x hx
    · exact z4k hr x hx
theorem z4N (l r:List Int):(z0V l r).length=65:=by simp [z0V,NATS]
theorem z4O (l r:List Int):(z19 l r).length=65:=by simp [z19,NATS]
theorem z4P (n:Nat) (r:List Int):(z1s n r).length=41:=by simp [z1s,NATS,HX.BE8]
theorem z4Q {w:World} {B n:Nat} {a:Option Addr} {c:Nat} {t:List Nat} (h:w.ownsRow B 5 1 (.slice a n c) n (HX.z01 (HX.INTS t))) (hn:t.length=n) (h0:0<n) (h2:n≤200) (hs:HX.Small8 t) {base:Nat} (hb:base≤B):∃ g,a=some ⟨g,0,none⟩∧B≤g∧OWNT w base g c t:=by
  obtain ⟨ad,cap,e,_,hg⟩:=z2t h
  obtain ⟨g,e2,h3,h4⟩:=hg h0
  simp only [Value.slice.injEq] at e
  obtain ⟨e1,_,e3⟩:=e
  subst hn
  rw [← e1] at e2
  subst e2
  exact ⟨g,rfl,h3,z0u h hb,hs,h0,h2⟩
def TXT (w:World) (base n:Nat) (t:List Nat) (e:Ending) (w':World):Prop:=∃ gt c,e=.returned (.slice (some ⟨gt,0,none⟩) n c)∧w.heap.size≤gt∧OWNT w' base gt c t∧Below w.heap.size w w'
theorem zeS (l r:List Int) (hl:IsH l) (hr:IsH r) (w:World) (base:Nat) (hb:base≤w.heap.size):Calls Tryz.prog 48 #[.agg (z01 l).toArray,.agg (z01 r).toArray] w (TXT w base 65 (z0V l r)):=by
  rw [z0z hl,z0z hr]
  refine (HX.z5m (FNC l) (FNC r) (z1c hl) (z1c hr) w).mono ?_
  rintro e w' ⟨a,c,rfl,ho,hbw⟩
  obtain ⟨g,rfl,h1,h2⟩:=z4Q (t:=z0V l r) ho (z4N l r) (by decide) (by decide) (z6p (by decide) hl hr) hb
  exact ⟨g,c,rfl,h1,h2,hbw⟩
theorem zeT (l r:List Int) (hl:IsH l) (hr:IsH r) (w:World) (base:Nat) (hb:base≤w.heap.size):Calls Tryz.prog 87 #[.agg (z01 l).toArray,.agg (z01 r).toArray] w (TXT w base 65 (z19 l r)):=by
  rw [z0z hl,z0z hr]
  refine (HX.z5n (FNC l) (FNC r) (z1c hl) (z1c hr) w).mono ?_
  rintro e w' ⟨a,c,rfl,ho,hbw⟩
  obtain ⟨g,rfl,h1,h2⟩:=z4Q (t:=z19 l r) ho (z4O l r) (by decide) (by decide) (z6p (by decide) hl hr) hb
  exact ⟨g,c,rfl,h1,h2,hbw⟩
theorem zeU (n:Nat) (hn:n<2 ^ 64) (r:List Int) (hr:IsH r) (w:World) (base:Nat) (hb:base≤w.heap.size):Calls Tryz.prog 88 #[.int .u64 (n:Int),.agg (z01 r).toArray] w (TXT w base 41 (z1s n r)):=by
  rw [z0z hr]
  refine (HX.z5o n hn (FNC r) (z1c hr) w).mono ?_
  rintro e w' ⟨a,c,rfl,ho,hbw⟩
  obtain ⟨g,rfl,h1,h2⟩:=z4Q (t:=z1s n r) ho (z4P n r) (by decide) (by decide) (fun x hx=>by
    rcases List.mem_cons.1 hx with rfl | hx
    · decide
    · rcases List.mem_append.1 hx with hx | hx
      · simp only [HX.BE8,List.mem_map] at hx
        obtain ⟨i,_,rfl⟩:=hx
        exact Nat.mod_lt _ (by decide)
      · exact z4k hr x hx) hb
  exact ⟨g,c,rfl,h1,h2,hbw⟩
theorem z5Q (d:Int) (w:World) (base top b g:Nat) (ok:Nat→Prop) (T:List (List Nat)) (hM:MET w base top ok b g d T) (hT:T.length≤100000) (gt c n:Nat) (t:List Nat) (hn:t.length=n) (ho:OWNT w base gt c t) (htop:top≤gt) (hok:ok gt) (hX:HX.Tabled w) (X:List Int) (hXt:HSHT d t=X):
    Calls Tryz.prog 47 #[.pointer (some ⟨b,0,none⟩),.slice (some ⟨gt,0,none⟩) n c] w fun e w'=>e=.returned (.agg (z01 X).toArray)∧MET w' base w.heap.size ok b g d (t :: T)∧STEPM b g w w':=by
  subst hn hXt
  exact zeO d w base top b g ok T hM hT gt c t ho htop hok hX
def z2b (d:Int) (l:List Int) (k:Nat):Nat→List (List Nat)
  | 0=>[]
  | q+1=>z19 (HSH l (k - 2 - q)) (FA d l k q) :: z2b d l k q
def BAGL (d:Int) (n k:Nat) (l:List Int):List (List Nat):=z1s n (FLD d l k) :: z2b d l k (k - 1)
theorem z7H (d:Int) (l:List Int) (k:Nat):∀ m q,q<m→z19 (HSH l (k - 2 - q)) (FA d l k q)∈z2b d l k m
  | 0,q,h=>by omega
  | m + 1,q,h=>by
    rw [z2b]
    by_cases e:q=m
    · subst e
      exact List.mem_cons_self ..
    · exact List.mem_cons_of_mem _ (z7H d l k m q (by omega))
theorem z7I (d:Int) (n k:Nat) (l:List Int):BAGS d n k l (BAGL d n k l):=⟨fun q hq=>List.mem_cons_of_mem _ (z7H d l k (k - 1) q (by omega)),List.mem_cons_self ..⟩
theorem z3o (d:Int) (l:List Int) (k:Nat):∀ m,(z2b d l k m).length=m
  | 0=>rfl
  | m+1=>by rw [z2b,List.length_cons,z3o d l k m]
theorem z3L (d:Int) (n k:Nat) (l:List Int):(BAGL d n k l).length=k - 1+1:=by rw [BAGL,List.length_cons,z3o]
def BST (d:Int) (l:List Int) (k:Nat) (T:List (List Nat)) (pre:List (Fin k)):List Int × List (List Nat):=pre.foldl (fun s x=>if x.val=k - 1 then (HSH l x.val,s.2) else (z1j d (HSH l x.val) s.1,z19 (HSH l x.val) s.1 :: s.2)) (ZND,T)
theorem z4l (d:Int) (l:List Int) (k:Nat) (T:List (List Nat)) (pre:List (Fin k)) (x:Fin k):BST d l k T (pre ++ [x])=if x.val=k - 1 then (HSH l x.val,(BST d l k T pre).2) else (z1j d (HSH l x.val) (BST d l k T pre).1,z19 (HSH l x.val) (BST d l k T pre).1 :: (BST d l k T pre).2):=by
  simp [BST,List.foldl_append]
theorem zgM {d:Int} {l:List Int} {k:Nat} {T:List (List Nat)} (hl:l.length=32*k) (hr:∀ x∈l,0≤x∧x≤255) (pre:List (Fin k)):IsH (BST d l k T pre).1:=by
  rcases List.eq_nil_or_concat pre with rfl | ⟨p,x,rfl⟩
  · exact z3S
  · rw [List.concat_eq_append,z4l]
    split
    · exact z2P hl hr x.isLt
    · exact z5K _ _ _
theorem zbG (d:Int) (l:List Int) (k:Nat) (T:List (List Nat)) (pre:List (Fin k)):(BST d l k T pre).2.length≤T.length+pre.length:=by
  have key:∀ (pre:List (Fin k)) (s:List Int × List (List Nat)),(pre.foldl (fun s x=>if x.val=k - 1 then (HSH l x.val,s.2) else (z1j d (HSH l x.val) s.1,z19 (HSH l x.val) s.1 :: s.2)) s).2.length≤s.2.length+pre.length:=by
    intro pre
    induction pre with
    | nil=>intro s;simp
    | cons x p ih=>
      intro s
      rw [List.foldl_cons]
      refine Nat.le_trans (ih _) ?_
      split <;> simp <;> omega
  exact key pre (ZND,T)
theorem zaG (d:Int) (l:List Int) (k:Nat) (hk:0<k) (T:List (List Nat)):∀ j,j<k→BST d l k T (UPTO (BCK k hk) (j+1))=(FA d l k j,z2b d l k j ++ T)
  | 0,_=>by
    rw [z2f,z4l]
    simp [BCK,BST,UPTO,FA,z2b]
  | j+1,h=>by
    rw [z2f,z4l,zaG d l k hk T j (by omega)]
    have e:(BCK k hk (j+1)).val=k - 2 - j:=by simp [BCK];omega
    rw [e,if_neg (by omega),FA,z2b]
    rfl
structure BINV (w:World) (base b g:Nat) (ok:Nat→Prop) (b3 b5 b6:Nat) (d:Int) (sl:Value) (A:List Int) (TT:List (List Nat)) (W:World):Prop where
  met:∃ top,MET W base top (fun k=>ok k∧k≠b6) b g d TT
  siz:b6+2≤W.heap.size
  acc:Has W b6 (z01 A).toArray 24
  box3:Has W b3 #[.pointer (some ⟨b,0,none⟩)] 55
  box5:Has W b5 #[sl] 40
  stp:STEPM b g w W
theorem z3y {W W':World} {row:Option Nat} {k:Nat} {c:Array Value} {t:TypeId} (h:Has W k c t) (hg:W.grownBy W' row) (hr:∀ r,row=some r→∃ o:Obj,W.heap[r]?=some o∧o.isCells=false):Has W' k c t:=
  (hg.block k h.lt (fun e=>by
    obtain ⟨o,ho,hc⟩:=hr k e.symm
    rw [show W.heap[k]?=_ from h] at ho
    cases ho
    cases hc)).trans h
theorem BINV.own {w:World} {base b g b3 b5 b6:Nat} {ok:Nat→Prop} {d:Int} {sl:Value} {β:Type} (fA:β→List Int) (fT:β→List (List Nat)) {B:Nat} (hB:w.heap.size≤B) (hg:b<B∧g<B):OwnFrom B (fun s W=>BINV w base b g ok b3 b5 b6 d sl (fA s) (fT s) W):=fun s W W' row h hgr hr=>by
  have hr':∀ r,row=some r→∃ o:Obj,W.heap[r]?=some o∧o.isCells=false:=fun r e=>(hr r e).2
  refine ⟨?_,Nat.le_trans h.siz hgr.size,z3y h.acc hgr hr',z3y h.box3 hgr hr',z3y h.box5 hgr hr',⟨hgr.os.trans h.stp.os,hgr.tape.trans h.stp.tape,hgr.output.trans h.stp.output,Nat.le_trans h.stp.size hgr.size,fun k h1 h2 h3=>(hgr.block k (Nat.lt_of_lt_of_le h1 h.stp.size) (fun e=>by have:=(hr k e.symm).1;omega)).trans (h.stp.block k h1 h2 h3)⟩⟩
  obtain ⟨top,hm⟩:=h.met
  refine ⟨top,hm.keepc (fun k h1 h2=>hgr.block k (Nat.lt_of_lt_of_le h1 hm.htop) (fun e=>?_)) (Nat.le_refl _) (Nat.le_trans hm.htop hgr.size)⟩
  obtain ⟨h3,o,h4,h5⟩:=hr k e.symm
  rcases h2 with rfl | rfl | ⟨-,o2,h6,h7⟩
  · omega
  · omega
  · rw [h4] at h6
    cases h6
    rw [h5] at h7
    cases h7
theorem z2u {F:Fence} {n:Nat} {ops:Array Oper} {rest:List Oper} {o:Oper} {a:Act} {w:World} {Q:Exit→Act→World→Prop} (hg:o.guard=none) (x y:Operand) (ho:o.op=.store 24 x y) (g:Nat) (A X:List Int) (hx:a.eval x=.pointer (some ⟨g,0,none⟩)) (hy:a.eval y=.agg (z01 X).toArray)
    (h:Has w g (z01 A).toArray 24) (lA:A.length=32) (lX:X.length=32) (hh:wpListIn F n Tryz.prog ops Q rest (a.put o.dst undef) (w.setRow g (z01 X).toArray)):wpListIn F n Tryz.prog ops Q (o :: rest) a w:=by
  refine wpListIn_plain hg fun K hK=>⟨fun f hf=>(by simp [Oper.about,ho] at hf),?_⟩
  rw [Oper.semAt_eq _ _ _ (by rw [ho];intro c h;cases h)]
  have e:(execOp a.eval o).run Tryz.prog w=.ok .skip (w.setRow g (z01 X).toArray):=by
    unfold execOp
    rw [ho]
    simp only [hx,hy]
    exact z4M (z3K h lA lX)
  rw [e]
  exact hK _ _ hh
def KEEP3 (b g b6:Nat) (W W':World):Prop:=W.heap.size≤W'.heap.size∧∀ k,k<W.heap.size→k≠b→k≠g→k≠b6→W'.heap[k]?=W.heap[k]?
theorem KEEP3.from {b g b6:Nat} {W W':World} (h:KEEP3 b g b6 W W') {B:Nat} (hb:b<B) (hg:g<B) (h6:b6<B):KeepsFrom B W W':=⟨h.1,fun k o h1 h2 h3=>(h.2 k (Array.getElem?_eq_some_iff.1 h2).1 (by omega) (by omega) (by omega)).trans h2⟩
set_option maxHeartbeats 4000000 in
theorem zaH (d:Int) (n:Nat) (hn:n<2 ^ 64) (gl o k c:Nat) (hk:0<k) (hk2:k≤1000) (l:List Int) (w:World) (base top b g:Nat) (ok:Nat→Prop) (T:List (List Nat)) (hM:MET w base top ok b g d T) (hT:T.length≤90000) (hF:Flat w (some ⟨gl,o,none⟩) k l) (hne:gl≠b∧gl≠g) (hok:∀ i,w.heap.size≤i→ok i) (hX:∀ W,Below base w W→HX.Tabled W):
    Calls Tryz.prog 49 #[.pointer (some ⟨b,0,none⟩),.int .u64 (n:Int),.slice (some ⟨gl,o,none⟩) k c] w fun e w'=>(∃ v,e=.returned v)∧MET w' base w'.heap.size ok b g d (BAGL d n k l ++ T)∧STEPM b g w w':=by
  have hgl:gl<w.heap.size:=by obtain ⟨_,_,e,h,_⟩:=hF.2.1 hk;cases e;exact h
  have htp:=hM.htop
  have hbb:=hM.hb
  have hgg:=hM.hg
  have HA:Aside (n<2 ^ 64∧0<k∧k≤1000∧MET w base top ok b g d T∧T.length≤90000∧Flat w (some ⟨gl,o,none⟩) k l∧gl≠b∧gl≠g∧gl<w.heap.size∧(∀ W,Below base w W→HX.Tabled W)∧∀ i,w.heap.size≤i→ok i):=⟨hn,hk,hk2,hM,hT,hF,hne.1,hne.2,hgl,hX,hok⟩
  have HB:Aside (top≤w.heap.size∧(base≤b∧b<top)∧(base≤g∧g<top)):=⟨htp,hbb,hgg⟩
  clear hn hk hk2 hM hT hF hne hgl hX hok htp hbb hgg
  refine (callsIn_wide (n:=5)).1 ?_
  refine callsIn_of_wp_marks Tryz.func49 rfl trivial ?_ rfl
  simp only [Tryz.ntmps49,List.size_toArray,List.length_cons,List.length_nil,Nat.reduceAdd,Nat.reduceSub,Array.replicate_succ,Array.replicate_zero,List.push_toArray,List.append_toArray,List.nil_append,List.cons_append]
  gi_upto_region 2 with fail
  rw [show (#[.int .u8 0,.int .u8 0,.int .u8 0,.int .u8 0,.int .u8 0,.int .u8 0,.int .u8 0,.int .u8 0,.int .u8 0,.int .u8 0,.int .u8 0,.int .u8 0,.int .u8 0,.int .u8 0,.int .u8 0,.int .u8 0,.int .u8 0,.int .u8 0,.int .u8 0,.int .u8 0,.int .u8 0,.int .u8 0,.int .u8 0,.int .u8 0,.int .u8 0,.int .u8 0,.int .u8 0,.int .u8 0,.int .u8 0,.int .u8 0,.int .u8 0,.int .u8 0]:Array Value)=ZARR from rfl]
  gi_wp2_with fail
  refine ⟨trivial,(z92 Fence.wide 4 trivial rfl _ _ _ _).mono ?_⟩
  rintro e w2 ⟨rfl,rfl⟩
  obtain ⟨s,hs⟩:∃ s,w.heap.size=s:=⟨_,rfl⟩
  obtain ⟨W0,hW0⟩:∃ W0,(((w.alloc (.cells #[.pointer (some ⟨b,0,none⟩)] 55)).alloc (.cells #[.slice (some ⟨gl,o,none⟩) k c] 40)).alloc (.cells ZARR 24)).alloc (.cells #[.slice (some ⟨gl,o,none⟩) k c] 40)=W0:=⟨_,rfl⟩
  have x3:Has W0 s #[.pointer (some ⟨b,0,none⟩)] 55:=by rw [← hW0,← hs];exact (((Has.new _ _ _).alloc _).alloc _).alloc _
  have x5:Has W0 (s+1) #[.slice (some ⟨gl,o,none⟩) k c] 40:=by rw [← hW0,← hs];exact ((Has.at _ _ _ (by simp)).alloc _).alloc _
  have x6:Has W0 (s+1+1) (z01 ZND).toArray 24:=by rw [← hW0,← hs,← z1L];exact (Has.at _ _ _ (by simp)).alloc _
  have x7:Has W0 (s+1+1+1) #[.slice (some ⟨gl,o,none⟩) k c] 40:=by rw [← hW0,← hs];exact Has.at _ _ _ (by simp)
  have hsz:W0.heap.size=s+4:=by rw [← hW0,← hs];simp
  have hb0:Below w.heap.size w W0:=by rw [← hW0];exact ((((Below.refl _ _).alloc (Nat.le_refl _) _).alloc (by simp) _).alloc (by simp;omega) _).alloc (by simp;omega) _
  simp only [World.size_alloc,hs]
  rw [hW0]
  clear hW0
  gi_wp2_with fail
  obtain ⟨z1,z2,z3,z4,z5,z6,z7,z8,z9,z10,z11⟩:=HA.out
  obtain ⟨y1,y2,y3⟩:=HB.out
  have hF0:=z6.below hb0
  refine wpIn_rangeFunc_ownH rfl (by omega) (gf:=112) (lb:=#[.pointer (some ⟨s+1+1+1,0,none⟩)]) rfl trivial (enters_of Tryz.func112 (by kernel_rfl) rfl)
    (z6o Fence.wide (5 - 1) trivial rfl (by omega) (s+1+1+1) gl o k c l z2 z3 W0 (by omega) hF0 (by omega) (x7.cell 0))
    KBH.t (KBH.b (by omega) (by omega)) (Below.refl _ _) (fun _=>rfl)
    (fun pre W=>BINV w base b g ok s (s+1) (s+1+1) d (.slice (some ⟨gl,o,none⟩) k c) (BST d l k T pre).1 (BST d l k T pre).2 W)
    (fun _ _ _=>False)
    (BINV.own (fun pre=>(BST d l k T pre).1) (fun pre=>(BST d l k T pre).2) (by omega) (by omega))
    (fun _ _ _ _ _ hs _ _=>hs)
    ⟨⟨_,(z4.keep (fun i hi=>hb0.block i (by omega)) (Nat.le_refl _) (by omega)).sub (fun i h1 h2=>⟨h2,by omega⟩)⟩,by omega,x6,x3,x5,STEPM.of_below hb0⟩
    (fun x a' W=>∃ bx,s+4≤bx∧Has W bx (z01 (HSH l x.val)).toArray 24∧a'={tmps:=#[.pointer (some ⟨b,0,none⟩),.int .u64 (n:Int),.slice (some ⟨gl,o,none⟩) k c,.pointer (some ⟨s,0,none⟩),undef,.pointer (some ⟨s+1,0,none⟩),.pointer (some ⟨s+1+1,0,none⟩),.int .i64 (x.val:Int),.pointer (some ⟨bx,0,none⟩),.slice (some ⟨gl,o,none⟩) k c,.func (.func 112) #[] #[.pointer (some ⟨s+1+1+1,0,none⟩)],.int .i64 (x.val:Int),.agg (z01 (HSH l x.val)).toArray,undef,undef,undef,undef,undef,undef,undef,undef,undef,undef,undef,undef,undef,undef,undef,undef],defers:=[]})
    (fun x a' _ W W' row h hg hr=>by
      obtain ⟨bx,h1,h2,h3⟩:=h
      exact ⟨bx,h1,z3y h2 hg (fun r e=>(hr r e).2),h3⟩) ?assign ?body ?done ?stop
  case assign=>
    intro y pre x W K hI hK
    have h32:=z0U z6.1 x.isLt
    have hsW:s+4≤W.heap.size:=hI.siz
    have hI':=(BINV.own (ok:=ok) (b3:=s) (b5:=s+1) (b6:=s+1+1) (w:=w) (base:=base) (b:=b) (g:=g) (d:=d) (sl:=.slice (some ⟨gl,o,none⟩) k c) (fun pre=>(BST d l k T pre).1) (fun pre=>(BST d l k T pre).2) (B:=W0.heap.size) (by omega) (by omega)).alloc (.cells (z01 (HSH l x.val)).toArray 24) hI
    have e1:KBH (s+1+1+1) gl W (W.alloc (.cells (z01 (HSH l x.val)).toArray 24)):=⟨Below.heap_alloc W _ _ (by omega),Below.heap_alloc W _ _ (by omega)⟩
    have e2:KeepsFrom W0.heap.size W (W.alloc (.cells (z01 (HSH l x.val)).toArray 24)):=(KeepsOthers.alloc _ _).from _
    have HK:Aside (∀ a' W',KeepsFrom W0.heap.size W W'→KBH (s+1+1+1) gl W W'→BINV w base b g ok s (s+1) (s+1+1) d (.slice (some ⟨gl,o,none⟩) k c) (BST d l k T pre).1 (BST d l k T pre).2 W'→(∃ bx,s+4≤bx∧Has W' bx (z01 (HSH l x.val)).toArray 24∧a'={tmps:=#[.pointer (some ⟨b,0,none⟩),.int .u64 (n:Int),.slice (some ⟨gl,o,none⟩) k c,.pointer (some ⟨s,0,none⟩),undef,.pointer (some ⟨s+1,0,none⟩),.pointer (some ⟨s+1+1,0,none⟩),.int .i64 (x.val:Int),.pointer (some ⟨bx,0,none⟩),.slice (some ⟨gl,o,none⟩) k c,.func (.func 112) #[] #[.pointer (some ⟨s+1+1+1,0,none⟩)],.int .i64 (x.val:Int),.agg (z01 (HSH l x.val)).toArray,undef,undef,undef,undef,undef,undef,undef,undef,undef,undef,undef,undef,undef,undef,undef,undef],defers:=[]})→K a' W'):=hK
    have HE:Aside (KBH (s+1+1+1) gl W (W.alloc (.cells (z01 (HSH l x.val)).toArray 24))∧KeepsFrom W0.heap.size W (W.alloc (.cells (z01 (HSH l x.val)).toArray 24))∧BINV w base b g ok s (s+1) (s+1+1) d (.slice (some ⟨gl,o,none⟩) k c) (BST d l k T pre).1 (BST d l k T pre).2 (W.alloc (.cells (z01 (HSH l x.val)).toArray 24))∧s+4≤W.heap.size):=⟨e1,e2,hI',hsW⟩
    clear hK hI hI' e1 e2 z1 z2 z3 z4 z5 z6 z7 z8 z9 z10 z11 y1 y2 y3 hF0 hb0 x3 x5 x6 x7 hsW
    unfold z89
    obtain ⟨xv,hxv⟩:∃ xv,x.val=xv:=⟨_,rfl⟩
    rw [hxv] at h32 HK HE ⊢
    clear hxv
    obtain ⟨L,hL⟩:∃ L,HSH l xv=L:=⟨_,rfl⟩
    rw [hL] at h32 HK HE ⊢
    clear hL
    gi_wp2_with (first
      | (rw [show (#[.int .u8 0,.int .u8 0,.int .u8 0,.int .u8 0,.int .u8 0,.int .u8 0,.int .u8 0,.int .u8 0,.int .u8 0,.int .u8 0,.int .u8 0,.int .u8 0,.int .u8 0,.int .u8 0,.int .u8 0,.int .u8 0,.int .u8 0,.int .u8 0,.int .u8 0,.int .u8 0,.int .u8 0,.int .u8 0,.int .u8 0,.int .u8 0,.int .u8 0,.int .u8 0,.int .u8 0,.int .u8 0,.int .u8 0,.int .u8 0,.int .u8 0,.int .u8 0]:Array Value)=(z01 ZND).toArray from rfl];refine z2u rfl (.tmp 8) (.tmp 12) rfl _ ZND L rfl rfl (Has.new _ _ _) rfl h32 ?_;rw [World.setRow_alloc_new])
      | fail)
    exact HK.out _ _ HE.out.2.1 HE.out.1 HE.out.2.2.1 ⟨W.heap.size,HE.out.2.2.2,Has.new _ _ _,rfl⟩
  case body=>
    rintro y pre x a' W hy hlp hI ⟨bx,hbx,hHx,rfl⟩ hlt
    have hsn:=z4l d l k T pre x
    have hA:=zgM (d:=d) (T:=T) z6.1 z6.2.2 pre
    have hL:=z2P z6.1 z6.2.2 x.isLt
    have hlen:=zbG d l k T pre
    obtain ⟨km,hkm⟩:∃ km:Nat,k=km+1:=⟨k - 1,by omega⟩
    have e1:wrap64 ((k:Int) - 1)=(km:Int):=by unfold wrap64;omega
    have c5:W.cell? ⟨s+1,0,none⟩=some (.slice (some ⟨gl,o,none⟩) k c):=hI.box5.cell 0
    have c3:W.cell? ⟨s,0,none⟩=some (.pointer (some ⟨b,0,none⟩)):=hI.box3.cell 0
    obtain ⟨xv,hxv⟩:∃ xv,x.val=xv:=⟨_,rfl⟩
    rw [show k - 1=km by omega,hxv] at hsn
    rw [hxv] at hL hHx ⊢
    obtain ⟨L,hLe⟩:∃ L,HSH l xv=L:=⟨_,rfl⟩
    rw [hLe] at hsn hL hHx ⊢
    obtain ⟨A,hAe⟩:∃ A,(BST d l k T pre).1=A:=⟨_,rfl⟩
    obtain ⟨TT,hTe⟩:∃ TT,(BST d l k T pre).2=TT:=⟨_,rfl⟩
    rw [hAe,hTe] at hsn
    rw [hAe] at hA
    rw [hTe] at hlen
    rw [hAe,hTe] at hI
    have hsiz:=hI.siz
    have hbw:Below base w W:=hI.stp.below (by omega) y2.1 y3.1
    have HI:Aside (BINV w base b g ok s (s+1) (s+1+1) d (.slice (some ⟨gl,o,none⟩) k c) A TT W∧Has W bx (z01 L).toArray 24∧s+4≤bx):=⟨hI,hHx,hbx⟩
    have hacc:=hI.acc
    clear hAe hTe hLe
    by_cases hx:xv=km
    · have q:((xv:Int) == (km:Int))=true:=by rw [hx];simp
      rw [if_pos hx] at hsn
      have hr8:=z0F hHx
      have PO:Aside (KeepsFrom W0.heap.size W (W.setRow (s+1+1) (z01 L).toArray)∧KBH (s+1+1+1) gl W (W.setRow (s+1+1) (z01 L).toArray)∧BINV w base b g ok s (s+1) (s+1+1) d (.slice (some ⟨gl,o,none⟩) k c) (BST d l k T (pre ++ [x])).1 (BST d l k T (pre ++ [x])).2 (W.setRow (s+1+1) (z01 L).toArray)):=by
        refine ⟨KEEP3.from (b:=b) (g:=g) (b6:=s+1+1) ⟨by simp,fun i _ _ _ h=>setRow_other W _ i _ h⟩ (by omega) (by omega) (by omega),⟨setRow_other W _ _ _ (by omega),setRow_other W _ _ _ (by omega)⟩,?_⟩
        rw [hsn]
        obtain ⟨top',hm⟩:=hI.met
        refine ⟨⟨top',hm.keepc (fun i h1 h2=>setRow_other W _ i _ (fun e=>?_)) (Nat.le_refl _) (by simpa using hm.htop)⟩,by simpa using hI.siz,hI.acc.row _,hI.box3.row_other (by omega) _,hI.box5.row_other (by omega) _,⟨hI.stp.os,hI.stp.tape,hI.stp.output,by simpa using hI.stp.size,fun i h1 h2 h3=>(setRow_other W _ i _ (by omega)).trans (hI.stp.block i h1 h2 h3)⟩⟩
        rcases h2 with h2 | h2 | h2
        · omega
        · omega
        · exact h2.1.2 e
      clear hsn z1 z2 z3 z4 z5 z6 z7 z8 z9 z10 z11 y1 y2 y3 hF0 hb0 x3 x5 x6 x7 hI hlen hkm hsiz hx hbx
      gi_wp2_with (first
        | (refine z2X rfl 24 (.tmp 8) rfl bx 0 rfl L _ hr8 Tryz.underlying24 rfl (z0f hL.1) ?_)
        | (refine z2u rfl (.tmp 6) (.tmp 18) rfl (s+1+1) A L rfl rfl hacc hA.1 hL.1 ?_)
        | fail)
      exact PO.out
    · have q:((xv:Int) == (km:Int))=false:=by simp;omega
      rw [if_neg hx] at hsn
      obtain ⟨top',hm⟩:=hI.met
      have hmt:=hm.htop
      have cF:CallsIn (Fence.wide.inRound y) (5 - 1 - 1 - 1) Tryz.prog 87 #[.agg (z01 L).toArray,.agg (z01 A).toArray] W.drew (TXT W.drew base 65 (z19 L A)):=CallsIn.inRound y (callsIn_wide.2 (zeT L A hL hA W.drew base (by show base≤W.heap.size;omega)))
      have cT:∀ gt c' w1,(W.heap.size≤gt∧OWNT w1 base gt c' (z19 L A)∧Below W.heap.size W w1)→CallsIn (Fence.wide.inRound y) (5 - 1 - 1 - 1) Tryz.prog 47 #[.pointer (some ⟨b,0,none⟩),.slice (some ⟨gt,0,none⟩) 65 c'] w1 fun e w'=>e=.returned (.agg (z01 (z1j d L A)).toArray)∧(∃ t2,MET w' base t2 (fun i=>ok i∧i≠s+1+1) b g d (z19 L A :: TT))∧STEPM b g W w':=fun gt c' w1 h=>
        (CallsIn.inRound y (callsIn_wide.2 (z5Q d w1 base top' b g _ TT (hm.below h.2.2) (by omega) gt c' 65 (z19 L A) (z4O L A) h.2.1 (by omega) ⟨z11 gt (by omega),by omega⟩ (z10 w1 (hbw.trans (h.2.2.mono (by omega)))) (z1j d L A) rfl))).mono fun e w' h3=>⟨h3.1,⟨_,h3.2.1⟩,(STEPM.of_below h.2.2).trans h3.2.2⟩
      have PO:Aside (∀ w2:World,(∃ t2,MET w2 base t2 (fun i=>ok i∧i≠s+1+1) b g d (z19 L A :: TT))→STEPM b g W w2→KeepsFrom W0.heap.size W (w2.setRow (s+1+1) (z01 (z1j d L A)).toArray)∧KBH (s+1+1+1) gl W (w2.setRow (s+1+1) (z01 (z1j d L A)).toArray)∧BINV w base b g ok s (s+1) (s+1+1) d (.slice (some ⟨gl,o,none⟩) k c) (BST d l k T (pre ++ [x])).1 (BST d l k T (pre ++ [x])).2 (w2.setRow (s+1+1) (z01 (z1j d L A)).toArray)):=by
        rintro w2 ⟨t2,m2⟩ st
        have hsz2:=st.size
        refine ⟨KEEP3.from (b:=b) (g:=g) (b6:=s+1+1) ⟨by simpa using st.size,fun i h1 h2 h3 h4=>(setRow_other w2 _ i _ h4).trans (st.block i h1 h2 h3)⟩ (by omega) (by omega) (by omega),⟨(setRow_other w2 _ _ _ (by omega)).trans (st.block _ (by omega) (by omega) (by omega)),(setRow_other w2 _ _ _ (by omega)).trans (st.block _ (by omega) (by omega) (by omega))⟩,?_⟩
        rw [hsn]
        have h6:Has w2 (s+1+1) (z01 A).toArray 24:=(st.block _ (by omega) (by omega) (by omega)).trans hI.acc
        have h3:Has w2 s #[.pointer (some ⟨b,0,none⟩)] 55:=(st.block _ (by omega) (by omega) (by omega)).trans hI.box3
        have h5:Has w2 (s+1) #[.slice (some ⟨gl,o,none⟩) k c] 40:=(st.block _ (by omega) (by omega) (by omega)).trans hI.box5
        have sw:=hI.stp.trans st
        refine ⟨⟨t2,m2.keepc (fun i h1 h2=>setRow_other w2 _ i _ (fun e=>?_)) (Nat.le_refl _) (by simpa using m2.htop)⟩,by simp;omega,h6.row _,h3.row_other (by omega) _,h5.row_other (by omega) _,⟨sw.os,sw.tape,sw.output,by simpa using sw.size,fun i h1 h2 h3=>(setRow_other w2 _ i _ (by omega)).trans (sw.block i h1 h2 h3)⟩⟩
        rcases h2 with h2 | h2 | h2
        · omega
        · omega
        · exact h2.1.2 e
      have KA:Aside (∀ w2:World,STEPM b g W w2→Has w2 (s+1+1) (z01 A).toArray 24):=fun w2 st=>(st.block _ (by omega) (by omega) (by omega)).trans hI.acc
      have KB:Aside (∀ w1:World,Below W.heap.size W w1→w1.cell? ⟨s,0,none⟩=some (.pointer (some ⟨b,0,none⟩))):=fun w1 h=>(h.cell (p:=⟨s,0,none⟩) (by show s<W.heap.size;omega)).trans c3
      clear hsn z1 z2 z3 z4 z5 z6 z7 z8 z9 z10 z11 y1 y2 y3 hF0 hb0 x3 x5 x6 x7 hI hlen hkm hsiz hx hbx hm hmt hbw
      gi_upto_region 7 with fail
      refine bag7 (fun _=>trivial) (fun h=>by cases h) W s (s+1+1) bx b L A (z1j d L A) hL.1 hA.1 (z5K d L A).1 c3 (z0F hHx) (z0F hacc)
        (fun gt c' w1=>W.heap.size≤gt∧OWNT w1 base gt c' (z19 L A)∧Below W.heap.size W w1)
        (fun w2=>(∃ t2,MET w2 base t2 (fun i=>ok i∧i≠s+1+1) b g d (z19 L A :: TT))∧STEPM b g W w2)
        (fun gt c' w1 h=>KB.out w1 h.2.2)
        (cF.mono fun e w' ⟨gt,c',h1,h2,h3,h4⟩=>⟨gt,c',h1,h2,h3,(Below.refl _ W).drew.trans h4⟩)
        cT (fun w2 h=>KA.out w2 h.2) ?_
      rintro gt c' w2 ⟨hm2,st2⟩
      exact PO.out w2 hm2 st2
  case done=>
    rintro D ys W hD hys hI hK
    have hys':ys=UPTO (BCK k z2) k:=hys
    obtain ⟨km,hkm⟩:∃ km:Nat,k=km+1:=⟨k - 1,by omega⟩
    have hall:=zaG d l k z2 T km (by omega)
    rw [← hkm] at hall
    rw [hys',hall] at hI
    dsimp only at hI
    have hfl:FLD d l k=FA d l k km:=by unfold FLD;rw [if_neg (by omega),show k - 1=km by omega]
    have hA:IsH (FA d l k km):=z57 z6.1 z6.2.2 z2 km
    have hBL:BAGL d n k l ++ T=z1s n (FA d l k km) :: (z2b d l k km ++ T):=by rw [BAGL,hfl,show k - 1=km by omega];rfl
    obtain ⟨A,hAe⟩:∃ A,FA d l k km=A:=⟨_,rfl⟩
    have hlen:(z2b d l k km ++ T).length≤100000:=by rw [List.length_append,z3o];omega
    rw [hAe] at hA hI hBL
    obtain ⟨TT,hTe⟩:∃ TT,z2b d l k km ++ T=TT:=⟨_,rfl⟩
    rw [hTe] at hI hBL hlen
    obtain ⟨top',hm⟩:=hI.met
    have hmt:=hm.htop
    have hsiz:=hI.siz
    have hbw:Below base w W:=hI.stp.below (by omega) y2.1 y3.1
    have c3:W.cell? ⟨s,0,none⟩=some (.pointer (some ⟨b,0,none⟩)):=hI.box3.cell 0
    have r6:=z0F hI.acc
    have hDs:D<W.heap.size:=(Array.getElem?_eq_some_iff.1 hK).1
    have cF:∀ w1,Below W.heap.size W w1→Calls Tryz.prog 88 #[.int .u64 (n:Int),.agg (z01 A).toArray] w1 fun e w'=>∃ (gt:Nat) (c:Nat),e=.returned (.slice (some ⟨gt,0,none⟩) 41 c)∧(W.heap.size≤gt∧OWNT w' base gt c (z1s n A)∧Below W.heap.size W w'):=fun w1 h=>(zeU n z1 A hA w1 base (by have:=h.size;omega)).mono fun e w' ⟨gt,c',h1,h2,h3,h4⟩=>⟨gt,c',h1,by have:=h.size;omega,h3,h.trans (h4.mono h.size)⟩
    have cT:∀ gt c' w1,(W.heap.size≤gt∧OWNT w1 base gt c' (z1s n A)∧Below W.heap.size W w1)→Calls Tryz.prog 47 #[.pointer (some ⟨b,0,none⟩),.slice (some ⟨gt,0,none⟩) 41 c'] w1 fun e w'=>e=.returned (.agg (z01 (z0C d n A)).toArray)∧(∃ t2,MET w' base t2 (fun i=>ok i∧i≠s+1+1) b g d (z1s n A :: TT))∧STEPM b g W w':=fun gt c' w1 h=>
      (z5Q d w1 base top' b g _ TT (hm.below h.2.2) hlen gt c' 41 (z1s n A) (z4P n A) h.2.1 (by omega) ⟨z11 gt (by omega),by omega⟩ (z10 w1 (hbw.trans (h.2.2.mono (by omega)))) (z0C d n A) rfl).mono fun e w' h3=>⟨h3.1,⟨_,h3.2.1⟩,(STEPM.of_below h.2.2).trans h3.2.2⟩
    have KA:Aside (∀ w1:World,Below W.heap.size W w1→w1.cell? ⟨s,0,none⟩=some (.pointer (some ⟨b,0,none⟩))∧w1.rangeAt (s+1+1) 0 (z01 A)):=fun w1 h=>⟨(h.cell (p:=⟨s,0,none⟩) (by show s<W.heap.size;omega)).trans c3,z0F (hI.acc.keep h)⟩
    have PO:Aside (∀ w2:World,(∃ t2,MET w2 base t2 (fun i=>ok i∧i≠s+1+1) b g d (z1s n A :: TT))→STEPM b g W w2→w2.heap[D]?=some (.deferred (some []))∧MET (w2.putObj D (.deferred none)) base (w2.putObj D (.deferred none)).heap.size ok b g d (BAGL d n k l ++ T)∧STEPM b g w (w2.putObj D (.deferred none))):=by
      rintro w2 ⟨t2,m2⟩ st
      have hD2:w2.heap[D]?=some (.deferred (some [])):=(st.block D hDs (by omega) (by omega)).trans hK
      have hbe:Below W0.heap.size w2 (w2.putObj D (.deferred none)):=belowK_b (w:=W0) (Nat.le_refl _) w2 D _ _ hD hD2 rfl rfl
      have sw:=hI.stp.trans st
      have hne:∀ i,i≠D→(w2.putObj D (.deferred none)).heap[i]?=w2.heap[i]?:=fun i hi=>by simp [World.putObj,Ne.symm hi]
      have hs2:(w2.putObj D (.deferred none)).heap.size=w2.heap.size:=by simp [World.putObj]
      refine ⟨hD2,?_,⟨hbe.os.trans sw.os,hbe.tape.trans sw.tape,hbe.output.trans sw.output,by rw [hs2];exact sw.size,fun i h1 h2 h3=>(hne i (by omega)).trans (sw.block i h1 h2 h3)⟩⟩
      rw [hBL]
      refine (m2.keepc (fun i h1 h2=>hne i (fun e=>?_)) (Nat.le_refl _) (by rw [hs2];exact m2.htop)).sub (fun i _ h=>h.1) |>.keep (fun _ _=>rfl) (by rw [hs2];exact m2.htop) (Nat.le_refl _)
      subst e
      rcases h2 with h2 | h2 | ⟨-,o2,h6,h7⟩
      · omega
      · omega
      · rw [hD2] at h6
        cases h6
        cases h7
    have h0:Below W.heap.size W W.drew:=(Below.refl _ W).drew
    clear hys hys' hall hI z2 z3 z4 z5 z6 z7 z8 z9 z10 z11 y1 y2 y3 hF0 hb0 x3 x5 x6 x7 hm hmt hbw hsiz hK hDs hBL hlen hTe hAe hfl hkm r6 c3
    gi_upto_region 8 with fail
    refine bag8 (fun _=>trivial) (fun h=>by cases h) W s (s+1+1) b n A (z0C d n A) hA.1 (KA.out W (Below.refl _ _)).1 (KA.out W (Below.refl _ _)).2 (fun gt c' w1=>W.heap.size≤gt∧OWNT w1 base gt c' (z1s n A)∧Below W.heap.size W w1)
      (fun w2=>(∃ t2,MET w2 base t2 (fun i=>ok i∧i≠s+1+1) b g d (z1s n A :: TT))∧STEPM b g W w2) (fun gt c' w1 h=>(KA.out w1 h.2.2).1) (callsIn_wide.2 (cF _ h0)) (fun gt c' w1 h=>callsIn_wide.2 (cT gt c' w1 h)) ?_
    rintro gt c' w2 ⟨hm2,st2⟩
    obtain ⟨q1,q2,q3⟩:=PO.out w2 hm2 st2
    refine ⟨by simp,.inl ⟨_,_,rfl,run_takeDeferred q1,?_⟩⟩
    exact ⟨_,results_none rfl _ _ _,⟨_,rfl⟩,q2,q3⟩
  case stop=>
    rintro D c pre W _ _ h _
    exact h.elim
end Go.Proofs.YthpdlnbbbcgemaaGreatDoor
