/- ManyClashes: part 30. -/
import Derived.Sort.CutIn
import Derived.Test.YtobaogpomcocpaaGreatDoorManyClashesP29
set_option maxRecDepth 100000
set_option maxHeartbeats 4000000
set_option linter.unusedSimpArgs false
open Go.RowKit
namespace Go.Proofs.YtobaogpomcocpaaGreatDoor
theorem Gn{w:World}{base:Nat}{t:TypeId}{s:Nat}{v:Value}{n:Nat}{xs:List Value}(h:w.ownsRow base t s v n xs):∃ ad cap,v=.slice ad n cap/\n<=cap/\(0<n->∃ g,ad=some ⟨g,0,none⟩/\base<=g/\g<w.heap.size):=by
 rcases h.2 with ⟨rfl,h0⟩ | ⟨g,cap,cur,rfl,hb,hg,r⟩
 ·subst h0
  exact⟨none,0,rfl,Nat.le_refl _,fun h=>by omega⟩
 ·exact⟨_,cap,rfl,r.1,fun _=>⟨g,rfl,hb,(Array.getElem?_eq_some_iff.1 hg).1⟩⟩
end Go.Proofs.YtobaogpomcocpaaGreatDoor
namespace Go.Proofs.YtobaogpomcocpaaGreatDoor
open Go.Shelf
attribute [local go_sem] Oper.semAt_some
theorem YL{h:List Int}(hh:IsH h):HX.Small8 (NATS h):=fun x hx=>by
 obtain⟨i,_,rfl⟩:=List.mem_map.1 hx;exact yl hh i
theorem vx{m:Nat}(hm:m<256){l r:List Int}(hl:IsH l)(hr:IsH r):HX.Small8 (m :: (NATS l ++ NATS r)):=fun x hx=>by
 rcases List.mem_cons.1 hx with rfl | hx
 ·exact hm
 ·rcases List.mem_append.1 hx with hx | hx
  ·exact YL hl x hx
  ·exact YL hr x hx
theorem Yr(l r:List Int):(zJ l r).length=65:=by simp[zJ,NATS]
theorem Jw(l r:List Int):(zO l r).length=65:=by simp[zO,NATS]
theorem Jy(n:Nat)(r:List Int):(yb n r).length=41:=by simp[yb,NATS,HX.BE8]
theorem Y6{w:World}{B n:Nat}{a:Option Addr}{c:Nat}{t:List Nat}(h:w.ownsRow B 5 1 (.slice a n c) n (HX.za (HX.INTS t)))(hn:t.length=n)(h0:0<n)(h2:n<=200)(hs:HX.Small8 t){base:Nat}(hb:base<=B):∃ g,a=some ⟨g,0,none⟩/\B<=g/\OWNT w base g c t:=by
 obtain⟨ad,cap,e,_,hg⟩:=Gn h;obtain⟨g,e2,h3,h4⟩:=hg h0;simp only[Value.slice.injEq] at e;obtain⟨e1,_,e3⟩:=e;subst hn;rw[<-e1] at e2;subst e2;exact⟨g,rfl,h3,zq h hb,hs,h0,h2⟩
def TXT(w:World)(base n:Nat)(t:List Nat)(e:Ending)(w':World):Prop:=∃ gt c,e=.returned (.slice (some ⟨gt,0,none⟩) n c)/\w.heap.size<=gt/\OWNT w' base gt c t/\Below w.heap.size w w'
theorem V4(l r:List Int)(hl:IsH l)(hr:IsH r)(w:World)(base:Nat)(hb:base<=w.heap.size):Calls Tryz.prog 24 #[.agg (za l).toArray,.agg (za r).toArray] w (TXT w base 65 (zJ l r)):=by
 rw[zX hl,zX hr];refine(HX.JF (FNC l) (FNC r) (yl hl) (yl hr) w).mono ?_;rintro e w' ⟨a,c,rfl,ho,hbw⟩;obtain⟨g,rfl,h1,h2⟩:=Y6 (t:=zJ l r) ho (Yr l r) (by decide) (by decide) (vx (by decide) hl hr) hb;exact⟨g,c,rfl,h1,h2,hbw⟩
theorem z0I(l r:List Int)(hl:IsH l)(hr:IsH r)(w:World)(base:Nat)(hb:base<=w.heap.size):Calls Tryz.prog 83 #[.agg (za l).toArray,.agg (za r).toArray] w (TXT w base 65 (zO l r)):=by
 rw[zX hl,zX hr];refine(HX.JG (FNC l) (FNC r) (yl hl) (yl hr) w).mono ?_;rintro e w' ⟨a,c,rfl,ho,hbw⟩;obtain⟨g,rfl,h1,h2⟩:=Y6 (t:=zO l r) ho (Jw l r) (by decide) (by decide) (vx (by decide) hl hr) hb;exact⟨g,c,rfl,h1,h2,hbw⟩
theorem z0J(n:Nat)(hn:n<2 ^ 64)(r:List Int)(hr:IsH r)(w:World)(base:Nat)(hb:base<=w.heap.size):Calls Tryz.prog 84 #[.int .u64 (n:Int),.agg (za r).toArray] w (TXT w base 41 (yb n r)):=by
 rw[zX hr];refine(HX.JH n hn (FNC r) (yl hr) w).mono ?_;rintro e w' ⟨a,c,rfl,ho,hbw⟩
 obtain⟨g,rfl,h1,h2⟩:=Y6 (t:=yb n r) ho (Jy n r) (by decide) (by decide) (fun x hx=>by
  rcases List.mem_cons.1 hx with rfl | hx
  ·decide
  ·rcases List.mem_append.1 hx with hx | hx
   ·simp only[HX.BE8,List.mem_map] at hx
    obtain⟨i,_,rfl⟩:=hx;exact Nat.mod_lt _ (by decide)
   ·exact YL hr x hx) hb
 exact⟨g,c,rfl,h1,h2,hbw⟩
theorem V5(d:Int)(w:World)(base top b g:Nat)(ok:Nat->Prop)(T:List (List Nat))(hM:METC w base top ok b g d T)(hT:T.length<=100000)(gt c n:Nat)(t:List Nat)(hn:t.length=n)(ho:OWNT w base gt c t)(htop:top<=gt)(hok:ok gt)(hX:HX.Tabled w)(X:List Int)(hXt:HSHT d t=X):
  Calls Tryz.prog 82 #[.pointer (some ⟨b,0,none⟩),.slice (some ⟨gt,0,none⟩) n c] w fun e w'=>e=.returned (.agg (za X).toArray)/\METC w' base w.heap.size ok b g d (t :: T)/\STEPM b g w w':=by
 subst hn hXt;exact z0H d w base top b g ok T hM hT gt c t ho htop hok hX
def yJ(d:Int)(l:List Int)(k:Nat):Nat->List (List Nat)
 | 0=>[]
 | q+1=>zO (HSH l (k - 2 - q)) (FA d l k q) :: yJ d l k q
def BAGL(d:Int)(n k:Nat)(l:List Int):List (List Nat):=yb n (FLD d l k) :: yJ d l k (k - 1)
theorem Ve(d:Int)(l:List Int)(k:Nat):∀ m q,q<m->zO (HSH l (k - 2 - q)) (FA d l k q)∈yJ d l k m
 | 0,q,h=>by omega
 | m + 1,q,h=>by
   rw[yJ];by_cases e:q=m
   ·subst e
    exact List.mem_cons_self ..
   ·exact List.mem_cons_of_mem _ (Ve d l k m q (by omega))
theorem Vf(d:Int)(n k:Nat)(l:List Int):BAGS d n k l (BAGL d n k l):=⟨fun q hq=>List.mem_cons_of_mem _ (Ve d l k (k - 1) q (by omega)),List.mem_cons_self ..⟩
theorem Ys(d:Int)(l:List Int)(k:Nat):∀ m,(yJ d l k m).length=m
 | 0=>rfl
 | m+1=>by rw[yJ,List.length_cons,Ys d l k m]
theorem Ky(d:Int)(n k:Nat)(l:List Int):(BAGL d n k l).length=k - 1+1:=by rw[BAGL,List.length_cons,Ys]
def BST(d:Int)(l:List Int)(k:Nat)(T:List (List Nat))(pre:List (Fin k)):List Int × List (List Nat):=pre.foldl (fun s x=>if x.val=k - 1 then (HSH l x.val,s.2) else (zW d (HSH l x.val) s.1,zO (HSH l x.val) s.1 :: s.2)) (ZND,T)
theorem ZM(d:Int)(l:List Int)(k:Nat)(T:List (List Nat))(pre:List (Fin k))(x:Fin k):BST d l k T (pre ++ [x])=if x.val=k - 1 then (HSH l x.val,(BST d l k T pre).2) else (zW d (HSH l x.val) (BST d l k T pre).1,zO (HSH l x.val) (BST d l k T pre).1 :: (BST d l k T pre).2):=by
 simp[BST,List.foldl_append]
theorem z2v{d:Int}{l:List Int}{k:Nat}{T:List (List Nat)}(hl:l.length=32*k)(hr:∀ x∈l,0<=x/\x<=255)(pre:List (Fin k)):IsH (BST d l k T pre).1:=by
 rcases List.eq_nil_or_concat pre with rfl | ⟨p,x,rfl⟩
 ·exact jR
 ·rw[List.concat_eq_append,ZM]
  split
  ·exact qd hl hr x.isLt
  ·exact Xg _ _ _
theorem Gp(d:Int)(l:List Int)(k:Nat)(T:List (List Nat))(pre:List (Fin k)):(BST d l k T pre).2.length<=T.length+pre.length:=by
 have key:∀ (pre:List (Fin k)) (s:List Int × List (List Nat)),(pre.foldl (fun s x=>if x.val=k - 1 then (HSH l x.val,s.2) else (zW d (HSH l x.val) s.1,zO (HSH l x.val) s.1 :: s.2)) s).2.length<=s.2.length+pre.length:=by
  intro pre;induction pre with
  | nil=>intro s;simp
  | cons x p ih=>
    intro s;rw[List.foldl_cons];refine Nat.le_trans (ih _) ?_;split <;> simp <;> omega
 exact key pre (ZND,T)
theorem uU(d:Int)(l:List Int)(k:Nat)(hk:0<k)(T:List (List Nat)):∀ j,j<k->BST d l k T (UPTO (BCK k hk) (j+1))=(FA d l k j,yJ d l k j ++ T)
 | 0,_=>by
   rw[qC,ZM];simp[BCK,BST,UPTO,FA,yJ]
 | j+1,h=>by
   rw[qC,ZM,uU d l k hk T j (by omega)];have e:(BCK k hk (j+1)).val=k - 2 - j:=by simp[BCK];omega
   rw[e,if_neg (by omega),FA,yJ];rfl
structure BINV (w:World) (base b g:Nat) (ok:Nat->Prop) (b3 b5 b6:Nat) (d:Int) (sl:Value) (A:List Int) (TT:List (List Nat)) (W:World):Prop where
 met:∃ top,METC W base top (fun k=>ok k/\k≠b6) b g d TT
 siz:b6+2<=W.heap.size
 acc:Has W b6 (za A).toArray 23
 box3:Has W b3 #[.pointer (some ⟨b,0,none⟩)] 83
 box5:Has W b5 #[sl] 26
 stp:STEPM b g w W
theorem Zv{W W':World}{row:Option Nat}{k:Nat}{c:Array Value}{t:TypeId}(h:Has W k c t)(hg:W.grownBy W' row)(hr:∀ r,row=some r->∃ o:Obj,W.heap[r]?=some o/\o.isCells=false):Has W' k c t:=
 (hg.block k h.lt (fun e=>by
   obtain⟨o,ho,hc⟩:=hr k e.symm;rw[show W.heap[k]?=_ from h] at ho;cases ho;cases hc)).trans h
theorem BINV.own{w:World}{base b g b3 b5 b6:Nat}{ok:Nat->Prop}{d:Int}{sl:Value}{β:Type}(fA:β->List Int)(fT:β->List (List Nat)){B:Nat}(hB:w.heap.size<=B)(hg:b<B/\g<B):OwnFrom B (fun s W=>BINV w base b g ok b3 b5 b6 d sl (fA s) (fT s) W):=fun s W W' row h hgr hr=>by
 have hr':∀ r,row=some r->∃ o:Obj,W.heap[r]?=some o/\o.isCells=false:=fun r e=>(hr r e).2;refine⟨?_,Nat.le_trans h.siz hgr.size,Zv h.acc hgr hr',Zv h.box3 hgr hr',Zv h.box5 hgr hr',⟨hgr.os.trans h.stp.os,hgr.tape.trans h.stp.tape,hgr.output.trans h.stp.output,Nat.le_trans h.stp.size hgr.size,fun k h1 h2 h3=>(hgr.block k (Nat.lt_of_lt_of_le h1 h.stp.size) (fun e=>by have:=(hr k e.symm).1;omega)).trans (h.stp.block k h1 h2 h3)⟩⟩;obtain⟨top,hm⟩:=h.met;refine⟨top,hm.keepc (fun k h1 h2=>hgr.block k (Nat.lt_of_lt_of_le h1 hm.htop) (fun e=>?_)) (Nat.le_refl _) (Nat.le_trans hm.htop hgr.size)⟩;obtain⟨h3,o,h4,h5⟩:=hr k e.symm;rcases h2 with rfl | rfl | ⟨-,o2,h6,h7⟩
 ·omega
 ·omega
 ·rw[h4] at h6
  cases h6;rw[h5] at h7;cases h7
theorem Ji{F:Fence}{n:Nat}{ops:Array Oper}{rest:List Oper}{o:Oper}{a:Act}{w:World}{Q:Exit->Act->World->Prop}(hg:o.guard=none)(x y:Operand)(ho:o.op=.store 23 x y)(g:Nat)(A X:List Int)(hx:a.eval x=.pointer (some ⟨g,0,none⟩))(hy:a.eval y=.agg (za X).toArray)
  (h:Has w g (za A).toArray 23)(lA:A.length=32)(lX:X.length=32)(hh:wpListIn F n Tryz.prog ops Q rest (a.put o.dst undef) (w.setRow g (za X).toArray)):wpListIn F n Tryz.prog ops Q (o :: rest) a w:=by
 refine wpListIn_plain hg fun K hK=>⟨fun f hf=>(by simp[Oper.about,ho] at hf),?_⟩
 rw[Oper.semAt_eq _ _ _ (by rw[ho];intro c h;cases h)]
 have e:(execOp a.eval o).run Tryz.prog w=.ok .skip (w.setRow g (za X).toArray):=by
  unfold execOp;rw[ho];simp only[hx,hy];exact Vd (J0 h lA lX)
 rw[e];exact hK _ _ hh
def KEEP3(b g b6:Nat)(W W':World):Prop:=W.heap.size<=W'.heap.size/\∀ k,k<W.heap.size->k≠b->k≠g->k≠b6->W'.heap[k]?=W.heap[k]?
theorem KEEP3.from{b g b6:Nat}{W W':World}(h:KEEP3 b g b6 W W'){B:Nat}(hb:b<B)(hg:g<B)(h6:b6<B):KeepsFrom B W W':=⟨h.1,fun k o h1 h2 h3=>(h.2 k (Array.getElem?_eq_some_iff.1 h2).1 (by omega) (by omega) (by omega)).trans h2⟩
theorem uV(d:Int)(n:Nat)(hn:n<2 ^ 64)(gl o k c:Nat)(hk:0<k)(hk2:k<=1000)(l:List Int)(w:World)(base top b g:Nat)(ok:Nat->Prop)(T:List (List Nat))(hM:METC w base top ok b g d T)(hT:T.length<=90000)(hF:Flat w (some ⟨gl,o,none⟩) k l)(hne:gl≠b/\gl≠g)(hok:∀ i,w.heap.size<=i->ok i)(hX:∀ W,Below base w W->HX.Tabled W):
    Calls Tryz.prog 48 #[.pointer (some ⟨b,0,none⟩),.int .u64 (n:Int),.slice (some ⟨gl,o,none⟩) k c] w fun e w'=>(∃ v,e=.returned v)/\METC w' base w'.heap.size ok b g d (BAGL d n k l ++ T)/\STEPM b g w w':=by
  have hgl:gl<w.heap.size:=by obtain⟨_,_,e,h,_⟩:=hF.2.1 hk;cases e;exact h
  have htp:=hM.htop;have hbb:=hM.hb;have hgg:=hM.hg;have HA:Aside (n<2 ^ 64/\0<k/\k<=1000/\METC w base top ok b g d T/\T.length<=90000/\Flat w (some ⟨gl,o,none⟩) k l/\gl≠b/\gl≠g/\gl<w.heap.size/\(∀ W,Below base w W->HX.Tabled W)/\∀ i,w.heap.size<=i->ok i):=⟨hn,hk,hk2,hM,hT,hF,hne.1,hne.2,hgl,hX,hok⟩
  have HB:Aside (top<=w.heap.size/\(base<=b/\b<top)/\(base<=g/\g<top)):=⟨htp,hbb,hgg⟩
  clear hn hk hk2 hM hT hF hne hgl hX hok htp hbb hgg;refine(callsIn_wide (n:=5)).1 ?_;refine callsIn_of_wp_marks Tryz.func48 rfl trivial ?_ rfl;simp only[Tryz.ntmps48,List.size_toArray,List.length_cons,List.length_nil,Nat.reduceAdd,Nat.reduceSub,Array.replicate_succ,Array.replicate_zero,List.push_toArray,List.append_toArray,List.nil_append,List.cons_append];gi_upto_region 2 with fail
  rw[show (#[.int .u8 0,.int .u8 0,.int .u8 0,.int .u8 0,.int .u8 0,.int .u8 0,.int .u8 0,.int .u8 0,.int .u8 0,.int .u8 0,.int .u8 0,.int .u8 0,.int .u8 0,.int .u8 0,.int .u8 0,.int .u8 0,.int .u8 0,.int .u8 0,.int .u8 0,.int .u8 0,.int .u8 0,.int .u8 0,.int .u8 0,.int .u8 0,.int .u8 0,.int .u8 0,.int .u8 0,.int .u8 0,.int .u8 0,.int .u8 0,.int .u8 0,.int .u8 0]:Array Value)=ZARR from rfl];gi_wp2_with fail
  refine⟨trivial,(kd Fence.wide 4 trivial rfl _ _ _ _).mono ?_⟩;rintro e w2 ⟨rfl,rfl⟩;obtain⟨s,hs⟩:∃ s,w.heap.size=s:=⟨_,rfl⟩
  obtain⟨W0,hW0⟩:∃ W0,(((w.alloc (.cells #[.pointer (some ⟨b,0,none⟩)] 83)).alloc (.cells #[.slice (some ⟨gl,o,none⟩) k c] 26)).alloc (.cells ZARR 23)).alloc (.cells #[.slice (some ⟨gl,o,none⟩) k c] 26)=W0:=⟨_,rfl⟩
  have x3:Has W0 s #[.pointer (some ⟨b,0,none⟩)] 83:=by rw[<-hW0,<-hs];exact(((Has.new _ _ _).alloc _).alloc _).alloc _
  have x5:Has W0 (s+1) #[.slice (some ⟨gl,o,none⟩) k c] 26:=by rw[<-hW0,<-hs];exact((Has.at _ _ _ (by simp)).alloc _).alloc _
  have x6:Has W0 (s+1+1) (za ZND).toArray 23:=by rw[<-hW0,<-hs,<-zQ];exact(Has.at _ _ _ (by simp)).alloc _
  have x7:Has W0 (s+1+1+1) #[.slice (some ⟨gl,o,none⟩) k c] 26:=by rw[<-hW0,<-hs];exact Has.at _ _ _ (by simp)
  have hsz:W0.heap.size=s+4:=by rw[<-hW0,<-hs];simp
  have hb0:Below w.heap.size w W0:=by rw[<-hW0];exact((((Below.refl _ _).alloc (Nat.le_refl _) _).alloc (by simp) _).alloc (by simp;omega) _).alloc (by simp;omega) _
  simp only[World.size_alloc,hs];rw[hW0];clear hW0;gi_wp2_with fail
  obtain⟨z1,z2,z3,z4,z5,z6,z7,z8,z9,z10,z11⟩:=HA.out;obtain⟨y1,y2,y3⟩:=HB.out;have hF0:=z6.below hb0
  refine wpIn_rangeFunc_ownH rfl (by omega) (gf:=117) (lb:=#[.pointer (some ⟨s+1+1+1,0,none⟩)]) rfl trivial (enters_of Tryz.func117 (by kernel_rfl) rfl)
    (Uu Fence.wide (5 - 1) trivial rfl (by omega) (s+1+1+1) gl o k c l z2 z3 W0 (by omega) hF0 (by omega) (x7.cell 0))
    KBH.t (KBH.b (by omega) (by omega)) (Below.refl _ _) (fun _=>rfl)
    (fun pre W=>BINV w base b g ok s (s+1) (s+1+1) d (.slice (some ⟨gl,o,none⟩) k c) (BST d l k T pre).1 (BST d l k T pre).2 W)
    (fun _ _ _=>False)
    (BINV.own (fun pre=>(BST d l k T pre).1) (fun pre=>(BST d l k T pre).2) (by omega) (by omega))
    (fun _ _ _ _ _ hs _ _=>hs)
    ⟨⟨_,(z4.keep (fun i hi=>hb0.block i (by omega)) (Nat.le_refl _) (by omega)).sub (fun i h1 h2=>⟨h2,by omega⟩)⟩,by omega,x6,x3,x5,STEPM.of_below hb0⟩
    (fun x a' W=>∃ bx,s+4<=bx/\Has W bx (za (HSH l x.val)).toArray 23/\a'=⟨#[.pointer (some ⟨b,0,none⟩),.int .u64 (n:Int),.slice (some ⟨gl,o,none⟩) k c,.pointer (some ⟨s,0,none⟩),undef,.pointer (some ⟨s+1,0,none⟩),.pointer (some ⟨s+1+1,0,none⟩),.int .i64 (x.val:Int),.pointer (some ⟨bx,0,none⟩),.slice (some ⟨gl,o,none⟩) k c,.func (.func 117) #[] #[.pointer (some ⟨s+1+1+1,0,none⟩)],.int .i64 (x.val:Int),.agg (za (HSH l x.val)).toArray,undef,undef,undef,undef,undef,undef,undef,undef,undef,undef,undef,undef,undef,undef,undef,undef],[]⟩)
    (fun x a' _ W W' row h hg hr=>by
      obtain⟨bx,h1,h2,h3⟩:=h;exact⟨bx,h1,Zv h2 hg (fun r e=>(hr r e).2),h3⟩) ?assign ?body ?done ?stop
  case assign=>
    intro y pre x W K hI hK;have h32:=yq z6.1 x.isLt;have hsW:s+4<=W.heap.size:=hI.siz;have hI':=(BINV.own (ok:=ok) (b3:=s) (b5:=s+1) (b6:=s+1+1) (w:=w) (base:=base) (b:=b) (g:=g) (d:=d) (sl:=.slice (some ⟨gl,o,none⟩) k c) (fun pre=>(BST d l k T pre).1) (fun pre=>(BST d l k T pre).2) (B:=W0.heap.size) (by omega) (by omega)).alloc (.cells (za (HSH l x.val)).toArray 23) hI;have e1:KBH (s+1+1+1) gl W (W.alloc (.cells (za (HSH l x.val)).toArray 23)):=⟨Below.heap_alloc W _ _ (by omega),Below.heap_alloc W _ _ (by omega)⟩
    have e2:KeepsFrom W0.heap.size W (W.alloc (.cells (za (HSH l x.val)).toArray 23)):=(KeepsOthers.alloc _ _).from _;have HK:Aside (∀ a' W',KeepsFrom W0.heap.size W W'->KBH (s+1+1+1) gl W W'->BINV w base b g ok s (s+1) (s+1+1) d (.slice (some ⟨gl,o,none⟩) k c) (BST d l k T pre).1 (BST d l k T pre).2 W'->(∃ bx,s+4<=bx/\Has W' bx (za (HSH l x.val)).toArray 23/\a'=⟨#[.pointer (some ⟨b,0,none⟩),.int .u64 (n:Int),.slice (some ⟨gl,o,none⟩) k c,.pointer (some ⟨s,0,none⟩),undef,.pointer (some ⟨s+1,0,none⟩),.pointer (some ⟨s+1+1,0,none⟩),.int .i64 (x.val:Int),.pointer (some ⟨bx,0,none⟩),.slice (some ⟨gl,o,none⟩) k c,.func (.func 117) #[] #[.pointer (some ⟨s+1+1+1,0,none⟩)],.int .i64 (x.val:Int),.agg (za (HSH l x.val)).toArray,undef,undef,undef,undef,undef,undef,undef,undef,undef,undef,undef,undef,undef,undef,undef,undef],[]⟩)->K a' W'):=hK;have HE:Aside (KBH (s+1+1+1) gl W (W.alloc (.cells (za (HSH l x.val)).toArray 23))/\KeepsFrom W0.heap.size W (W.alloc (.cells (za (HSH l x.val)).toArray 23))/\BINV w base b g ok s (s+1) (s+1+1) d (.slice (some ⟨gl,o,none⟩) k c) (BST d l k T pre).1 (BST d l k T pre).2 (W.alloc (.cells (za (HSH l x.val)).toArray 23))/\s+4<=W.heap.size):=⟨e1,e2,hI',hsW⟩
    clear hK hI hI' e1 e2 z1 z2 z3 z4 z5 z6 z7 z8 z9 z10 z11 y1 y2 y3 hF0 hb0 x3 x5 x6 x7 hsW;unfold Yk;obtain⟨xv,hxv⟩:∃ xv,x.val=xv:=⟨_,rfl⟩
    rw[hxv] at h32 HK HE ⊢;clear hxv;obtain⟨L,hL⟩:∃ L,HSH l xv=L:=⟨_,rfl⟩
    rw[hL] at h32 HK HE ⊢;clear hL
    gi_wp2_with (first
      | (rw[show (#[.int .u8 0,.int .u8 0,.int .u8 0,.int .u8 0,.int .u8 0,.int .u8 0,.int .u8 0,.int .u8 0,.int .u8 0,.int .u8 0,.int .u8 0,.int .u8 0,.int .u8 0,.int .u8 0,.int .u8 0,.int .u8 0,.int .u8 0,.int .u8 0,.int .u8 0,.int .u8 0,.int .u8 0,.int .u8 0,.int .u8 0,.int .u8 0,.int .u8 0,.int .u8 0,.int .u8 0,.int .u8 0,.int .u8 0,.int .u8 0,.int .u8 0,.int .u8 0]:Array Value)=(za ZND).toArray from rfl];refine Ji rfl (.tmp 8) (.tmp 12) rfl _ ZND L rfl rfl (Has.new _ _ _) rfl h32 ?_;rw[World.setRow_alloc_new])
      | fail)
    exact HK.out _ _ HE.out.2.1 HE.out.1 HE.out.2.2.1 ⟨W.heap.size,HE.out.2.2.2,Has.new _ _ _,rfl⟩
  case body=>
    rintro y pre x a' W hy hlp hI ⟨bx,hbx,hHx,rfl⟩ hlt;have hsn:=ZM d l k T pre x;have hA:=z2v (d:=d) (T:=T) z6.1 z6.2.2 pre;have hL:=qd z6.1 z6.2.2 x.isLt;have hlen:=Gp d l k T pre;obtain⟨km,hkm⟩:∃ km:Nat,k=km+1:=⟨k - 1,by omega⟩
    have e1:wrap64 ((k:Int) - 1)=(km:Int):=by unfold wrap64;omega
    have c5:W.cell? ⟨s+1,0,none⟩=some (.slice (some ⟨gl,o,none⟩) k c):=hI.box5.cell 0;have c3:W.cell? ⟨s,0,none⟩=some (.pointer (some ⟨b,0,none⟩)):=hI.box3.cell 0;obtain⟨xv,hxv⟩:∃ xv,x.val=xv:=⟨_,rfl⟩
    rw[show k - 1=km by omega,hxv] at hsn;rw[hxv] at hL hHx ⊢;obtain⟨L,hLe⟩:∃ L,HSH l xv=L:=⟨_,rfl⟩
    rw[hLe] at hsn hL hHx ⊢;obtain⟨A,hAe⟩:∃ A,(BST d l k T pre).1=A:=⟨_,rfl⟩
    obtain⟨TT,hTe⟩:∃ TT,(BST d l k T pre).2=TT:=⟨_,rfl⟩
    rw[hAe,hTe] at hsn;rw[hAe] at hA;rw[hTe] at hlen;rw[hAe,hTe] at hI;have hsiz:=hI.siz;have hbw:Below base w W:=hI.stp.below (by omega) y2.1 y3.1;have HI:Aside (BINV w base b g ok s (s+1) (s+1+1) d (.slice (some ⟨gl,o,none⟩) k c) A TT W/\Has W bx (za L).toArray 23/\s+4<=bx):=⟨hI,hHx,hbx⟩
    have hacc:=hI.acc;clear hAe hTe hLe;by_cases hx:xv=km
    · have q:((xv:Int) == (km:Int))=true:=by rw[hx];simp
      rw[if_pos hx] at hsn;have hr8:=yT hHx
      have PO:Aside (KeepsFrom W0.heap.size W (W.setRow (s+1+1) (za L).toArray)/\KBH (s+1+1+1) gl W (W.setRow (s+1+1) (za L).toArray)/\BINV w base b g ok s (s+1) (s+1+1) d (.slice (some ⟨gl,o,none⟩) k c) (BST d l k T (pre ++ [x])).1 (BST d l k T (pre ++ [x])).2 (W.setRow (s+1+1) (za L).toArray)):=by
        refine⟨KEEP3.from (b:=b) (g:=g) (b6:=s+1+1) ⟨by simp,fun i _ _ _ h=>setRow_other W _ i _ h⟩ (by omega) (by omega) (by omega),⟨setRow_other W _ _ _ (by omega),setRow_other W _ _ _ (by omega)⟩,?_⟩;rw[hsn];obtain⟨top',hm⟩:=hI.met;refine⟨⟨top',hm.keepc (fun i h1 h2=>setRow_other W _ i _ (fun e=>?_)) (Nat.le_refl _) (by simpa using hm.htop)⟩,by simpa using hI.siz,hI.acc.row _,hI.box3.row_other (by omega) _,hI.box5.row_other (by omega) _,⟨hI.stp.os,hI.stp.tape,hI.stp.output,by simpa using hI.stp.size,fun i h1 h2 h3=>(setRow_other W _ i _ (by omega)).trans (hI.stp.block i h1 h2 h3)⟩⟩;rcases h2 with h2 | h2 | h2
        · omega
        · omega
        · exact h2.1.2 e
      clear hsn z1 z2 z3 z4 z5 z6 z7 z8 z9 z10 z11 y1 y2 y3 hF0 hb0 x3 x5 x6 x7 hI hlen hkm hsiz hx hbx
      gi_wp2_with (first
        | (refine Jj rfl 23 (.tmp 8) rfl bx 0 rfl L _ hr8 Tryz.underlying23 rfl (zo hL.1) ?_)
        | (refine Ji rfl (.tmp 6) (.tmp 18) rfl (s+1+1) A L rfl rfl hacc hA.1 hL.1 ?_)
        | fail)
      exact PO.out
    · have q:((xv:Int) == (km:Int))=false:=by simp;omega
      rw[if_neg hx] at hsn;obtain⟨top',hm⟩:=hI.met;have hmt:=hm.htop;have cF:CallsIn (Fence.wide.inRound y) (5 - 1 - 1 - 1) Tryz.prog 83 #[.agg (za L).toArray,.agg (za A).toArray] W.drew (TXT W.drew base 65 (zO L A)):=CallsIn.inRound y (callsIn_wide.2 (z0I L A hL hA W.drew base (by show base<=W.heap.size;omega)))
      have cT:∀ gt c' w1,(W.heap.size<=gt/\OWNT w1 base gt c' (zO L A)/\Below W.heap.size W w1)->CallsIn (Fence.wide.inRound y) (5 - 1 - 1 - 1) Tryz.prog 82 #[.pointer (some ⟨b,0,none⟩),.slice (some ⟨gt,0,none⟩) 65 c'] w1 fun e w'=>e=.returned (.agg (za (zW d L A)).toArray)/\(∃ t2,METC w' base t2 (fun i=>ok i/\i≠s+1+1) b g d (zO L A :: TT))/\STEPM b g W w':=fun gt c' w1 h=>
        (CallsIn.inRound y (callsIn_wide.2 (V5 d w1 base top' b g _ TT (hm.below h.2.2) (by omega) gt c' 65 (zO L A) (Jw L A) h.2.1 (by omega) ⟨z11 gt (by omega),by omega⟩ (z10 w1 (hbw.trans (h.2.2.mono (by omega)))) (zW d L A) rfl))).mono fun e w' h3=>⟨h3.1,⟨_,h3.2.1⟩,(STEPM.of_below h.2.2).trans h3.2.2⟩
      have PO:Aside (∀ w2:World,(∃ t2,METC w2 base t2 (fun i=>ok i/\i≠s+1+1) b g d (zO L A :: TT))->STEPM b g W w2->KeepsFrom W0.heap.size W (w2.setRow (s+1+1) (za (zW d L A)).toArray)/\KBH (s+1+1+1) gl W (w2.setRow (s+1+1) (za (zW d L A)).toArray)/\BINV w base b g ok s (s+1) (s+1+1) d (.slice (some ⟨gl,o,none⟩) k c) (BST d l k T (pre ++ [x])).1 (BST d l k T (pre ++ [x])).2 (w2.setRow (s+1+1) (za (zW d L A)).toArray)):=by
        rintro w2 ⟨t2,m2⟩ st;have hsz2:=st.size;refine⟨KEEP3.from (b:=b) (g:=g) (b6:=s+1+1) ⟨by simpa using st.size,fun i h1 h2 h3 h4=>(setRow_other w2 _ i _ h4).trans (st.block i h1 h2 h3)⟩ (by omega) (by omega) (by omega),⟨(setRow_other w2 _ _ _ (by omega)).trans (st.block _ (by omega) (by omega) (by omega)),(setRow_other w2 _ _ _ (by omega)).trans (st.block _ (by omega) (by omega) (by omega))⟩,?_⟩;rw[hsn];have h6:Has w2 (s+1+1) (za A).toArray 23:=(st.block _ (by omega) (by omega) (by omega)).trans hI.acc;have h3:Has w2 s #[.pointer (some ⟨b,0,none⟩)] 83:=(st.block _ (by omega) (by omega) (by omega)).trans hI.box3;have h5:Has w2 (s+1) #[.slice (some ⟨gl,o,none⟩) k c] 26:=(st.block _ (by omega) (by omega) (by omega)).trans hI.box5;have sw:=hI.stp.trans st;refine⟨⟨t2,m2.keepc (fun i h1 h2=>setRow_other w2 _ i _ (fun e=>?_)) (Nat.le_refl _) (by simpa using m2.htop)⟩,by simp;omega,h6.row _,h3.row_other (by omega) _,h5.row_other (by omega) _,⟨sw.os,sw.tape,sw.output,by simpa using sw.size,fun i h1 h2 h3=>(setRow_other w2 _ i _ (by omega)).trans (sw.block i h1 h2 h3)⟩⟩;rcases h2 with h2 | h2 | h2
        · omega
        · omega
        · exact h2.1.2 e
      have KA:Aside (∀ w2:World,STEPM b g W w2->Has w2 (s+1+1) (za A).toArray 23):=fun w2 st=>(st.block _ (by omega) (by omega) (by omega)).trans hI.acc;have KB:Aside (∀ w1:World,Below W.heap.size W w1->w1.cell? ⟨s,0,none⟩=some (.pointer (some ⟨b,0,none⟩))):=fun w1 h=>(h.cell (p:=⟨s,0,none⟩) (by show s<W.heap.size;omega)).trans c3;clear hsn z1 z2 z3 z4 z5 z6 z7 z8 z9 z10 z11 y1 y2 y3 hF0 hb0 x3 x5 x6 x7 hI hlen hkm hsiz hx hbx hm hmt hbw;gi_upto_region 7 with fail
      refine bag7 (fun _=>trivial) (fun h=>by cases h) W s (s+1+1) bx b L A (zW d L A) hL.1 hA.1 (Xg d L A).1 c3 (yT hHx) (yT hacc)
        (fun gt c' w1=>W.heap.size<=gt/\OWNT w1 base gt c' (zO L A)/\Below W.heap.size W w1)
        (fun w2=>(∃ t2,METC w2 base t2 (fun i=>ok i/\i≠s+1+1) b g d (zO L A :: TT))/\STEPM b g W w2)
        (fun gt c' w1 h=>KB.out w1 h.2.2)
        (cF.mono fun e w' ⟨gt,c',h1,h2,h3,h4⟩=>⟨gt,c',h1,h2,h3,(Below.refl _ W).drew.trans h4⟩)
        cT (fun w2 h=>KA.out w2 h.2) ?_
      rintro gt c' w2 ⟨hm2,st2⟩;exact PO.out w2 hm2 st2
  case done=>
    rintro D ys W hD hys hI hK;have hys':ys=UPTO (BCK k z2) k:=hys;obtain⟨km,hkm⟩:∃ km:Nat,k=km+1:=⟨k - 1,by omega⟩
    have hall:=uU d l k z2 T km (by omega);rw[<-hkm] at hall;rw[hys',hall] at hI;dsimp only at hI;have hfl:FLD d l k=FA d l k km:=by unfold FLD;rw[if_neg (by omega),show k - 1=km by omega]
    have hA:IsH (FA d l k km):=ja z6.1 z6.2.2 z2 km;have hBL:BAGL d n k l ++ T=yb n (FA d l k km) :: (yJ d l k km ++ T):=by rw[BAGL,hfl,show k - 1=km by omega];rfl
    obtain⟨A,hAe⟩:∃ A,FA d l k km=A:=⟨_,rfl⟩
    have hlen:(yJ d l k km ++ T).length<=100000:=by rw[List.length_append,Ys];omega
    rw[hAe] at hA hI hBL;obtain⟨TT,hTe⟩:∃ TT,yJ d l k km ++ T=TT:=⟨_,rfl⟩
    rw[hTe] at hI hBL hlen;obtain⟨top',hm⟩:=hI.met;have hmt:=hm.htop;have hsiz:=hI.siz;have hbw:Below base w W:=hI.stp.below (by omega) y2.1 y3.1;have c3:W.cell? ⟨s,0,none⟩=some (.pointer (some ⟨b,0,none⟩)):=hI.box3.cell 0;have r6:=yT hI.acc;have hDs:D<W.heap.size:=(Array.getElem?_eq_some_iff.1 hK).1;have cF:∀ w1,Below W.heap.size W w1->Calls Tryz.prog 84 #[.int .u64 (n:Int),.agg (za A).toArray] w1 fun e w'=>∃ (gt:Nat) (c:Nat),e=.returned (.slice (some ⟨gt,0,none⟩) 41 c)/\(W.heap.size<=gt/\OWNT w' base gt c (yb n A)/\Below W.heap.size W w'):=fun w1 h=>(z0J n z1 A hA w1 base (by have:=h.size;omega)).mono fun e w' ⟨gt,c',h1,h2,h3,h4⟩=>⟨gt,c',h1,by have:=h.size;omega,h3,h.trans (h4.mono h.size)⟩
    have cT:∀ gt c' w1,(W.heap.size<=gt/\OWNT w1 base gt c' (yb n A)/\Below W.heap.size W w1)->Calls Tryz.prog 82 #[.pointer (some ⟨b,0,none⟩),.slice (some ⟨gt,0,none⟩) 41 c'] w1 fun e w'=>e=.returned (.agg (za (zy d n A)).toArray)/\(∃ t2,METC w' base t2 (fun i=>ok i/\i≠s+1+1) b g d (yb n A :: TT))/\STEPM b g W w':=fun gt c' w1 h=>
      (V5 d w1 base top' b g _ TT (hm.below h.2.2) hlen gt c' 41 (yb n A) (Jy n A) h.2.1 (by omega) ⟨z11 gt (by omega),by omega⟩ (z10 w1 (hbw.trans (h.2.2.mono (by omega)))) (zy d n A) rfl).mono fun e w' h3=>⟨h3.1,⟨_,h3.2.1⟩,(STEPM.of_below h.2.2).trans h3.2.2⟩
    have KA:Aside (∀ w1:World,Below W.heap.size W w1->w1.cell? ⟨s,0,none⟩=some (.pointer (some ⟨b,0,none⟩))/\w1.rangeAt (s+1+1) 0 (za A)):=fun w1 h=>⟨(h.cell (p:=⟨s,0,none⟩) (by show s<W.heap.size;omega)).trans c3,yT (hI.acc.keep h)⟩
    have PO:Aside (∀ w2:World,(∃ t2,METC w2 base t2 (fun i=>ok i/\i≠s+1+1) b g d (yb n A :: TT))->STEPM b g W w2->w2.heap[D]?=some (.deferred (some []))/\METC (w2.putObj D (.deferred none)) base (w2.putObj D (.deferred none)).heap.size ok b g d (BAGL d n k l ++ T)/\STEPM b g w (w2.putObj D (.deferred none))):=by
      rintro w2 ⟨t2,m2⟩ st;have hD2:w2.heap[D]?=some (.deferred (some [])):=(st.block D hDs (by omega) (by omega)).trans hK;have hbe:Below W0.heap.size w2 (w2.putObj D (.deferred none)):=belowK_b (w:=W0) (Nat.le_refl _) w2 D _ _ hD hD2 rfl rfl;have sw:=hI.stp.trans st;have hne:∀ i,i≠D->(w2.putObj D (.deferred none)).heap[i]?=w2.heap[i]?:=fun i hi=>by simp[World.putObj,Ne.symm hi]
      have hs2:(w2.putObj D (.deferred none)).heap.size=w2.heap.size:=by simp[World.putObj]
      refine⟨hD2,?_,⟨hbe.os.trans sw.os,hbe.tape.trans sw.tape,hbe.output.trans sw.output,by rw[hs2];exact sw.size,fun i h1 h2 h3=>(hne i (by omega)).trans (sw.block i h1 h2 h3)⟩⟩;rw[hBL];refine(m2.keepc (fun i h1 h2=>hne i (fun e=>?_)) (Nat.le_refl _) (by rw[hs2];exact m2.htop)).sub (fun i _ h=>h.1) |>.keep (fun _ _=>rfl) (by rw[hs2];exact m2.htop) (Nat.le_refl _)
      subst e;rcases h2 with h2 | h2 | ⟨-,o2,h6,h7⟩
      · omega
      · omega
      · rw[hD2] at h6
        cases h6;cases h7
    have h0:Below W.heap.size W W.drew:=(Below.refl _ W).drew;clear hys hys' hall hI z2 z3 z4 z5 z6 z7 z8 z9 z10 z11 y1 y2 y3 hF0 hb0 x3 x5 x6 x7 hm hmt hbw hsiz hK hDs hBL hlen hTe hAe hfl hkm r6 c3;gi_upto_region 8 with fail
    refine bag8 (fun _=>trivial) (fun h=>by cases h) W s (s+1+1) b n A (zy d n A) hA.1 (KA.out W (Below.refl _ _)).1 (KA.out W (Below.refl _ _)).2 (fun gt c' w1=>W.heap.size<=gt/\OWNT w1 base gt c' (yb n A)/\Below W.heap.size W w1)
      (fun w2=>(∃ t2,METC w2 base t2 (fun i=>ok i/\i≠s+1+1) b g d (yb n A :: TT))/\STEPM b g W w2) (fun gt c' w1 h=>(KA.out w1 h.2.2).1) (callsIn_wide.2 (cF _ h0)) (fun gt c' w1 h=>callsIn_wide.2 (cT gt c' w1 h)) ?_
    rintro gt c' w2 ⟨hm2,st2⟩;obtain⟨q1,q2,q3⟩:=PO.out w2 hm2 st2;refine⟨by simp,.inl ⟨_,_,rfl,run_takeDeferred q1,?_⟩⟩;exact⟨_,results_none rfl _ _ _,⟨_,rfl⟩,q2,q3⟩
  case stop=>
    rintro D c pre W _ _ h _;exact h.elim
end Go.Proofs.YtobaogpomcocpaaGreatDoor
namespace Go.Proofs.YtobaogpomcocpaaGreatDoor
@[go_sem] def CRPeaksOPSq0:Oper:=⟨some 56,.move (.tmp 14),83,"clash.go:29",#[],none⟩
@[go_sem] def CRPeaksOPSq1:Oper:=⟨some 57,.nilCheck (.tmp 56),0,"clash.go:29",#[⟨0,.data⟩],none⟩
@[go_sem] def CRPeaksOPSq2:Oper:=⟨some 58,.fieldAddr 88 (.tmp 57) 2,0,"clash.go:29",#[⟨1,.data⟩],none⟩
@[go_sem] def CRPeaksOPSq3:Oper:=⟨some 59,.load 35 (.tmp 58),35,"clash.go:29",#[⟨2,.data⟩],none⟩
@[go_sem] def CRPeaksOPSq4:Oper:=⟨some 60,.move (.tmp 14),83,"clash.go:29",#[{on:=8,ground:=.gcOnly Departure.lateStores}],none⟩
@[go_sem] def CRPeaksOPSq5:Oper:=⟨some 61,.nilCheck (.tmp 60),0,"clash.go:29",#[⟨4,.data⟩,{on:=8,ground:=.gcOnly Departure.lateStores}],none⟩
@[go_sem] def CRPeaksOPSq6:Oper:=⟨some 62,.fieldAddr 88 (.tmp 61) 3,0,"clash.go:29",#[⟨5,.data⟩,{on:=8,ground:=.gcOnly Departure.lateStores}],none⟩
@[go_sem] def CRPeaksOPSq7:Oper:=⟨some 63,.load 4 (.tmp 62),4,"clash.go:29",#[⟨6,.data⟩,{on:=8,ground:=.gcOnly Departure.lateStores}],none⟩
@[go_sem] def CRPeaksOPSq8:Oper:=⟨none,.store 35 (.tmp 8) (.tmp 59),0,"clash.go:29",#[⟨3,.data⟩,⟨0,.phase⟩,⟨1,.phase⟩,⟨2,.phase⟩,⟨3,.phase⟩,{on:=4,ground:=.textOnly Departure.lateStores},{on:=5,ground:=.textOnly Departure.lateStores},{on:=6,ground:=.textOnly Departure.lateStores},{on:=7,ground:=.textOnly Departure.lateStores}],none⟩
@[go_sem] def CRPeaksOPSq9:Oper:=⟨some 9,.assign (.tmp 63),4,"clash.go:29",#[⟨7,.data⟩,⟨8,.chain⟩,⟨0,.phase⟩,⟨1,.phase⟩,⟨2,.phase⟩,⟨3,.phase⟩,⟨4,.phase⟩,⟨5,.phase⟩,⟨6,.phase⟩,⟨7,.phase⟩,⟨8,.phase⟩],none⟩
def Zk:Array Oper:=#[CRPeaksOPSq0,CRPeaksOPSq1,CRPeaksOPSq2,CRPeaksOPSq3,CRPeaksOPSq4,CRPeaksOPSq5,CRPeaksOPSq6,CRPeaksOPSq7,CRPeaksOPSq8,CRPeaksOPSq9]
theorem z0K{Q:Exit->Act->World->Prop}{d e f g h i j k l m n p q r s u x y A B C D E F G H I J K L M N O P R T U V X Y Z aa ab ac ad ae af ag ah ai aj ak al am an ao ap aq ar au av aw:Value}(W:World)(b bz:Nat)(a1 a2:Option Addr)(n1 c1 n2 c2:Nat)(fd:Bool)(P0 P2:World->Prop)(h0:P0 W.drew)(t0:∀ w,P0 w->(fun w:World=>w.cell? ⟨b,2,none⟩=some (.slice a1 n1 c1)/\w.cell? ⟨b,3,none⟩=some (.slice a2 n2 c2)/\w.cell? ⟨b,4,none⟩=some (.bool fd)) w)(t2:∀ w,P2 w->(fun w:World=>w.cell? ⟨b,2,none⟩=some (.slice a1 n1 c1)/\w.cell? ⟨b,3,none⟩=some (.slice a2 n2 c2)/\w.cell? ⟨b,4,none⟩=some (.bool fd)) w)(kz:∀ w,P0 w->Has w bz #[.slice none 0 0,.slice none 0 0] 35)(st:∀ w,P0 w->P2 ((w.setCell ⟨bz,0,none⟩ (.slice a1 n1 c1)).setCell ⟨bz,1,none⟩ (.slice a2 n2 c2)))(hQ:∀ c (a:Act) (t:Tmp) (v:Value) w,Q (.panic c) (a.put (some t) v) w->Q (.panic c) a w)
  (hfin:∀ (w:World),(P2 w)->Q .normal ⟨#[d,e,f,g,h,i,j,k,.pointer (some ⟨bz,0,none⟩),.bool fd,m,n,p,q,.pointer (some ⟨b,0,none⟩),r,s,u,x,y,A,B,C,D,E,F,G,H,I,J,K,L,M,N,O,P,R,T,U,V,X,Y,Z,aa,ab,ac,ad,ae,af,ag,ah,ai,aj,ak,al,am,.pointer (some ⟨b,0,none⟩),.pointer (some ⟨b,0,none⟩),.pointer (some ⟨b,2,none⟩),.agg #[.slice a1 n1 c1,.slice a2 n2 c2],.pointer (some ⟨b,0,none⟩),.pointer (some ⟨b,0,none⟩),.pointer (some ⟨b,4,none⟩),.bool fd],[]⟩ w):(Code.region 8 Zk true).wp Tryz.prog Q ⟨#[d,e,f,g,h,i,j,k,.pointer (some ⟨bz,0,none⟩),l,m,n,p,q,.pointer (some ⟨b,0,none⟩),r,s,u,x,y,A,B,C,D,E,F,G,H,I,J,K,L,M,N,O,P,R,T,U,V,X,Y,Z,aa,ab,ac,ad,ae,af,ag,ah,ai,aj,ak,al,am,an,ao,ap,aq,ar,au,av,aw],[]⟩ W:=by
 have ekst_8:∀ (w:World),(P2 w)->wpAnyH Tryz.prog .any Zk Q (fun w:World=>w.cell? ⟨b,2,none⟩=some (.slice a1 n1 c1)/\w.cell? ⟨b,3,none⟩=some (.slice a2 n2 c2)/\w.cell? ⟨b,4,none⟩=some (.bool fd)) 1 #[tt,tt,tt,tt,tt,tt,tt,tt,tt,ff] ⟨#[d,e,f,g,h,i,j,k,.pointer (some ⟨bz,0,none⟩),l,m,n,p,q,.pointer (some ⟨b,0,none⟩),r,s,u,x,y,A,B,C,D,E,F,G,H,I,J,K,L,M,N,O,P,R,T,U,V,X,Y,Z,aa,ab,ac,ad,ae,af,ag,ah,ai,aj,ak,al,am,.pointer (some ⟨b,0,none⟩),.pointer (some ⟨b,0,none⟩),.pointer (some ⟨b,2,none⟩),.agg #[.slice a1 n1 c1,.slice a2 n2 c2],.pointer (some ⟨b,0,none⟩),.pointer (some ⟨b,0,none⟩),.pointer (some ⟨b,4,none⟩),.bool fd],[]⟩ w:=fun  w hp=>by
  have hww:(fun w:World=>w.cell? ⟨b,2,none⟩=some (.slice a1 n1 c1)/\w.cell? ⟨b,3,none⟩=some (.slice a2 n2 c2)/\w.cell? ⟨b,4,none⟩=some (.bool fd)) w:=t2 _ hp;refine tkP CRPeaksOPSq9 (.bool fd) 9 hQ hww ?_;simp only[List.set];exact wpAnyH_done (by kernel_rfl) (hfin  w hp) _
 have kst:∀ (w:World),(P0 w)->wpAnyH Tryz.prog .any Zk Q (fun w:World=>w.cell? ⟨b,2,none⟩=some (.slice a1 n1 c1)/\w.cell? ⟨b,3,none⟩=some (.slice a2 n2 c2)/\w.cell? ⟨b,4,none⟩=some (.bool fd)) 2 #[tt,tt,tt,tt,tt,tt,tt,tt,ff,ff] ⟨#[d,e,f,g,h,i,j,k,.pointer (some ⟨bz,0,none⟩),l,m,n,p,q,.pointer (some ⟨b,0,none⟩),r,s,u,x,y,A,B,C,D,E,F,G,H,I,J,K,L,M,N,O,P,R,T,U,V,X,Y,Z,aa,ab,ac,ad,ae,af,ag,ah,ai,aj,ak,al,am,.pointer (some ⟨b,0,none⟩),.pointer (some ⟨b,0,none⟩),.pointer (some ⟨b,2,none⟩),.agg #[.slice a1 n1 c1,.slice a2 n2 c2],.pointer (some ⟨b,0,none⟩),.pointer (some ⟨b,0,none⟩),.pointer (some ⟨b,4,none⟩),.bool fd],[]⟩ w:=fun  w hp=>by
  refine wpAnyH_ready (rs:=[8]) (by kernel_rfl) (by simp) ?_;refine AllReadyH.cons (o:=CRPeaksOPSq8) rfl (fun KQ hKQ=>?_) ?_
  ·exact(have x0:w.cell? ⟨bz,0,none⟩=some (.slice none 0 0):=(kz w hp).cell 0;have x1:w.cell? ⟨bz,1,none⟩=some (.slice none 0 0):=(kz w hp).cell 1;have f0:=(kz w hp).frozen 0;have f1:=(kz w hp).frozen 1;yt (by rfl) (by go_simp) (have hp:(fun(w:World)=>(P2 w))  _:=st w hp;hKQ.out _ _ (t2 _ hp) (fun _=>ekst_8  _ hp)))
  exact AllReadyH.nil
 have hp:=h0;have hww:(fun w:World=>w.cell? ⟨b,2,none⟩=some (.slice a1 n1 c1)/\w.cell? ⟨b,3,none⟩=some (.slice a2 n2 c2)/\w.cell? ⟨b,4,none⟩=some (.bool fd)) W.drew:=t0 _ hp;have last:=kst W.drew hp
 have z:wpAnyH Tryz.prog .any Zk Q (fun w:World=>w.cell? ⟨b,2,none⟩=some (.slice a1 n1 c1)/\w.cell? ⟨b,3,none⟩=some (.slice a2 n2 c2)/\w.cell? ⟨b,4,none⟩=some (.bool fd)) 10 #[ff,ff,ff,ff,ff,ff,ff,ff,ff,ff] ⟨#[d,e,f,g,h,i,j,k,.pointer (some ⟨bz,0,none⟩),l,m,n,p,q,.pointer (some ⟨b,0,none⟩),r,s,u,x,y,A,B,C,D,E,F,G,H,I,J,K,L,M,N,O,P,R,T,U,V,X,Y,Z,aa,ab,ac,ad,ae,af,ag,ah,ai,aj,ak,al,am,an,ao,ap,aq,ar,au,av,aw],[]⟩ W.drew:=by
  refine tkP CRPeaksOPSq0 (.pointer (some ⟨b,0,none⟩)) 0 hQ hww ?_;simp only[List.set];refine tkP CRPeaksOPSq1 (.pointer (some ⟨b,0,none⟩)) 1 hQ hww ?_;simp only[List.set];refine tkP CRPeaksOPSq2 (.pointer (some ⟨b,2,none⟩)) 2 hQ hww ?_;simp only[List.set];refine tkH CRPeaksOPSq3 (.agg #[.slice a1 n1 c1,.slice a2 n2 c2]) 3 hQ (Or.inl ⟨by rfl,fun w hw=>by have hx:=hw.1;have hy:=hw.2.1;go_simp⟩) hww ?_;simp only[List.set];refine tkP CRPeaksOPSq4 (.pointer (some ⟨b,0,none⟩)) 4 hQ hww ?_;simp only[List.set];refine tkP CRPeaksOPSq5 (.pointer (some ⟨b,0,none⟩)) 5 hQ hww ?_;simp only[List.set];refine tkP CRPeaksOPSq6 (.pointer (some ⟨b,4,none⟩)) 6 hQ hww ?_;simp only[List.set];refine tkH CRPeaksOPSq7 (.bool fd) 7 hQ (Or.inl ⟨by rfl,fun w hw=>by have hx:=hw.2.2;go_simp⟩) hww ?_;simp only[List.set];exact last
 exact wp_region_held_drew (S:=(fun w:World=>w.cell? ⟨b,2,none⟩=some (.slice a1 n1 c1)/\w.cell? ⟨b,3,none⟩=some (.slice a2 n2 c2)/\w.cell? ⟨b,4,none⟩=some (.bool fd))) (by kernel_rfl) hww (fun _=>z)
theorem m8(d:Int)(g:Nat):Tryz.prog.built 88 [(0,.int .i64 d),(1,.map (some g))]=some #[.int .i64 d,.map (some g),.slice none 0 0,.slice none 0 0,.bool false]:=by kernel_rfl
theorem z1U(d:Int)(w:World)(ok:Nat->Prop):Calls Tryz.prog 47 #[.int .i64 d] w fun e w'=>e=.returned (.pointer (some ⟨w.heap.size+1,0,none⟩))/\METC w' w.heap.size w'.heap.size ok (w.heap.size+1) w.heap.size d []/\Below w.heap.size w w':=by
 have hmk:(Instr.makeMap 86 none).run Tryz.prog w=.ok (.map (some w.heap.size)) (w.alloc (.map #[] 0)):=rfl;have hb:∀ W,(Instr.build 88 #[(0,.int .i64 d),(1,.map (some w.heap.size))]).run Tryz.prog W=.ok (.agg #[.int .i64 d,.map (some w.heap.size),.slice none 0 0,.slice none 0 0,.bool false]) W:=fun W=>run_build (P:=Tryz.prog) W 88 #[(0,.int .i64 d),(1,.map (some w.heap.size))] _ (m8 d w.heap.size);go_enter Tryz.func47,Tryz.ntmps47;go_wp2;go_ret;have hh:Has ((w.alloc (.map #[] 0)).alloc (.cells #[.int .i64 d,.map (some w.heap.size),.slice none 0 0,.slice none 0 0,.bool false] 88)) (w.heap.size+1) #[.int .i64 d,.map (some w.heap.size),.slice none 0 0,.slice none 0 0,.bool false] 88:=Has.at _ _ _ (by simp);refine⟨rfl,⟨⟨by omega,by simp⟩,⟨Nat.le_refl _,by simp;omega⟩,by omega,Nat.le_refl _,⟨_,_,_,_,_,_,hh,fun s t e=>by simp[CLS] at e⟩,_,(World.ownsMap_made w _ _ _).alloc _,fun h _ _=>by simp[Maps.has],fun h t _ e=>by simp[FST] at e⟩,((Below.refl _ _).alloc (Nat.le_refl _) _).alloc (by simp) _⟩
def CLASHED(w:World)(X:Option (List Nat × List Nat))(e:Ending)(w':World):Prop:=Below w.heap.size w w'/\match X with
 | none=>e=.returned (.tuple #[.agg #[.slice none 0 0,.slice none 0 0],.bool false])
 | some (s,t)=>∃ gA cA gB cB,e=.returned (.tuple #[.agg #[.slice (some ⟨gA,0,none⟩) s.length cA,.slice (some ⟨gB,0,none⟩) t.length cB],.bool true])/\OWNT w' w.heap.size gA cA s/\OWNT w' w.heap.size gB cB t/\gA≠gB
theorem METC.told{w0 w w':World}{base top b g bz:Nat}{ok:Nat->Prop}{d:Int}{T:List (List Nat)}(h:METC w base top ok b g d T){a1:Option Addr}{n1 c1:Nat}{a2:Option Addr}{n2 c2:Nat}{fd:Bool}(hB:Has w b #[.int .i64 d,.map (some g),.slice a1 n1 c1,.slice a2 n2 c2,.bool fd] 88){s t:List Nat}(hc:CLS d T=some (s,t))(hbase:w0.heap.size<=base)(hw:Below w0.heap.size w0 w')(hk:∀ k,k≠bz->w'.heap[k]?=w.heap[k]?)(hz:∀ k,ok k->k≠bz):fd=true/\CLASHED w0 (some (s,t)) (.returned (.tuple #[.agg #[.slice a1 n1 c1,.slice a2 n2 c2],.bool fd])) w':=by
 obtain⟨a3,n3,c3,a4,n4,c4,h1,h2⟩:=h.blk;have e:some (Obj.cells #[.int .i64 d,.map (some g),.slice a1 n1 c1,.slice a2 n2 c2,.bool fd] 88)=some (Obj.cells #[.int .i64 d,.map (some g),.slice a3 n3 c3,.slice a4 n4 c4,.bool (CLS d T).isSome] 88):=hB.symm.trans h1;simp only[Option.some.injEq,Obj.cells.injEq,Array.mk.injEq,List.cons.injEq,Value.slice.injEq,Value.bool.injEq,and_true,true_and] at e;obtain⟨⟨r1,r2,r3⟩,⟨r4,r5,r6⟩,r7⟩:=e;rw[hc] at r7;obtain⟨gA,cA,gB,cB,e1,e2,o1,o2,n1',l1,l2, -⟩:=h2 s t hc;simp only[Value.slice.injEq] at e1 e2;refine⟨r7,hw,gA,cA,gB,cB,?_,?_,?_,n1'⟩
 ·rw[r1,r2,r3,r4,r5,r6,r7,e1.1,e1.2.1,e1.2.2,e2.1,e2.2.1,e2.2.2]
  rfl
 ·have:=o1.at (hk gA (hz gA l1.2))
  exact⟨zq this.1 hbase,this.2⟩
 ·have:=o2.at (hk gB (hz gB l2.2))
  exact⟨zq this.1 hbase,this.2⟩
@[go_sem] def EQOPSq0:Oper:=⟨some 16,.move (.tmp 0),26,"slices.go:25",#[],none⟩
@[go_sem] def EQOPSq1:Oper:=⟨some 17,.move (.tmp 5),3,"slices.go:25",#[],none⟩
@[go_sem] def EQOPSq2:Oper:=⟨some 18,.indexAddr 26 (.tmp 16) (.tmp 17),0,"slices.go:25",#[⟨0,.data⟩,⟨1,.data⟩],none⟩
@[go_sem] def EQOPSq3:Oper:=⟨some 19,.load 23 (.tmp 18),23,"slices.go:25",#[⟨2,.data⟩],none⟩
@[go_sem] def EQOPSq4:Oper:=⟨some 20,.move (.tmp 1),26,"slices.go:25",#[],none⟩
@[go_sem] def EQOPSq5:Oper:=⟨some 21,.move (.tmp 5),3,"slices.go:25",#[],none⟩
@[go_sem] def EQOPSq6:Oper:=⟨some 22,.indexAddr 26 (.tmp 20) (.tmp 21),0,"slices.go:25",#[⟨4,.data⟩,⟨5,.data⟩],none⟩
@[go_sem] def EQOPSq7:Oper:=⟨some 23,.load 23 (.tmp 22),23,"slices.go:25",#[⟨6,.data⟩],none⟩
@[go_sem] def EQOPSq8:Oper:=⟨some 24,.binOp .neq 23 (.tmp 19) (.tmp 23) 23,4,"slices.go:25",#[⟨3,.data⟩,⟨7,.data⟩],none⟩
def Jh:Array Oper:=#[EQOPSq0,EQOPSq1,EQOPSq2,EQOPSq3,EQOPSq4,EQOPSq5,EQOPSq6,EQOPSq7,EQOPSq8]
theorem Jz{Q:Exit->Act->World->Prop}(b d e f g j k l o p q r s u x y z A B C D E F:Value)(W:World)(w0:World)(ba oa n ca bb ob m cb i:Nat)(H K:List Int)(hH:H.length=32)(hK:K.length=32)(b1:(i:Int)<(n:Int))(b2:(i:Int)<(m:Int))(hS:(fun W:World=>W.rangeAt ba (oa+i*32) (za H)/\W.rangeAt bb (ob+i*32) (za K)/\Below w0.heap.size w0 W) W)(hQ:∀ c (a:Act) (t:Tmp) (v:Value) w,Q (.panic c) (a.put (some t) v) w->Q (.panic c) a w)
  (h:∀ w,(fun W:World=>W.rangeAt ba (oa+i*32) (za H)/\W.rangeAt bb (ob+i*32) (za K)/\Below w0.heap.size w0 W) w->Q .normal ⟨#[.slice (some ⟨ba,oa,none⟩) n ca,.slice (some ⟨bb,ob,none⟩) m cb,b,d,e,.int .i64 (i:Int),f,g,j,k,l,o,p,q,r,s,.slice (some ⟨ba,oa,none⟩) n ca,.int .i64 (i:Int),.pointer (some ⟨ba,oa+i*32,none⟩),.agg (za H).toArray,.slice (some ⟨bb,ob,none⟩) m cb,.int .i64 (i:Int),.pointer (some ⟨bb,ob+i*32,none⟩),.agg (za K).toArray,.bool (!decide (H=K)),F],[]⟩ w):(Code.region 6 Jh true).wp Tryz.prog Q ⟨#[.slice (some ⟨ba,oa,none⟩) n ca,.slice (some ⟨bb,ob,none⟩) m cb,b,d,e,.int .i64 (i:Int),f,g,j,k,l,o,p,q,r,s,u,x,y,z,A,B,C,D,E,F],[]⟩ W:=by
 have hs0:(fun W:World=>W.rangeAt ba (oa+i*32) (za H)/\W.rangeAt bb (ob+i*32) (za K)/\Below w0.heap.size w0 W) W.drew:=⟨hS.1,hS.2.1,hS.2.2.drew⟩
 have k0:∀ w,(fun W:World=>W.rangeAt ba (oa+i*32) (za H)/\W.rangeAt bb (ob+i*32) (za K)/\Below w0.heap.size w0 W) w->wpAnyH Tryz.prog .any Jh Q (fun W:World=>W.rangeAt ba (oa+i*32) (za H)/\W.rangeAt bb (ob+i*32) (za K)/\Below w0.heap.size w0 W) 9 #[ff,ff,ff,ff,ff,ff,ff,ff,ff] ⟨#[.slice (some ⟨ba,oa,none⟩) n ca,.slice (some ⟨bb,ob,none⟩) m cb,b,d,e,.int .i64 (i:Int),f,g,j,k,l,o,p,q,r,s,u,x,y,z,A,B,C,D,E,F],[]⟩ w:=fun w hw=>by
  have hww:(fun W:World=>W.rangeAt ba (oa+i*32) (za H)/\W.rangeAt bb (ob+i*32) (za K)/\Below w0.heap.size w0 W) w:=hw;have last:wpAnyH Tryz.prog .any Jh Q (fun W:World=>W.rangeAt ba (oa+i*32) (za H)/\W.rangeAt bb (ob+i*32) (za K)/\Below w0.heap.size w0 W) 0 #[tt,tt,tt,tt,tt,tt,tt,tt,tt] ⟨#[.slice (some ⟨ba,oa,none⟩) n ca,.slice (some ⟨bb,ob,none⟩) m cb,b,d,e,.int .i64 (i:Int),f,g,j,k,l,o,p,q,r,s,.slice (some ⟨ba,oa,none⟩) n ca,.int .i64 (i:Int),.pointer (some ⟨ba,oa+i*32,none⟩),.agg (za H).toArray,.slice (some ⟨bb,ob,none⟩) m cb,.int .i64 (i:Int),.pointer (some ⟨bb,ob+i*32,none⟩),.agg (za K).toArray,.bool (!decide (H=K)),F],[]⟩ w:=wpAnyH_done (by kernel_rfl) (h w hw) _;refine tkP EQOPSq0 (.slice (some ⟨ba,oa,none⟩) n ca) 0 hQ hww ?_;simp only[List.set];refine tkP EQOPSq1 (.int .i64 (i:Int)) 1 hQ hww ?_;simp only[List.set];refine tkP EQOPSq2 (.pointer (some ⟨ba,oa+i*32,none⟩)) 2 hQ hww ?_;simp only[List.set];refine tkH EQOPSq3 (.agg (za H).toArray) 3 hQ (yieldsIf_load_mid (by rfl) 23 (.tmp 18) rfl ba (oa+i*32) rfl (za H) _ (fun w h=>h.1) Tryz.underlying23 rfl (zo hH)) hww ?_;simp only[List.set];refine tkP EQOPSq4 (.slice (some ⟨bb,ob,none⟩) m cb) 4 hQ hww ?_;simp only[List.set];refine tkP EQOPSq5 (.int .i64 (i:Int)) 5 hQ hww ?_;simp only[List.set];refine tkP EQOPSq6 (.pointer (some ⟨bb,ob+i*32,none⟩)) 6 hQ hww ?_;simp only[List.set]
  refine tkH EQOPSq7 (.agg (za K).toArray) 7 hQ (yieldsIf_load_mid (by rfl) 23 (.tmp 22) rfl bb (ob+i*32) rfl (za K) _ (fun w h=>h.2.1) Tryz.underlying23 rfl (zo hK)) hww ?_;simp only[List.set];refine tkH EQOPSq8 (.bool (!decide (H=K))) 8 hQ (Yields.yieldsIf (Or.inl ⟨by rfl,fun W=>xS (vi hH hK _ _ W)⟩)) hww ?_;simp only[List.set];exact last
 exact wp_region_held_drew (S:=(fun W:World=>W.rangeAt ba (oa+i*32) (za H)/\W.rangeAt bb (ob+i*32) (za K)/\Below w0.heap.size w0 W)) (by kernel_rfl) hs0 (fun _=>k0 _ hs0)
theorem Ym(a b:Option Addr)(n m ca cb:Nat)(l k:List Int)(w:World)(hA:Flat w a n l)(hB:Flat w b m k)(hn:n<=1000000):
  Calls Tryz.prog 21 #[.slice a n ca,.slice b m cb] w fun e w'=>e=.returned (.bool (decide (l=k)))/\Below w.heap.size w w':=by
 by_cases hnm:n=m
 ·subst hnm
  rcases Nat.eq_zero_or_pos n with h | h
  ·subst h
   have hd:decide (l=k)=true:=by
    rw[List.eq_nil_of_length_eq_zero hA.1,List.eq_nil_of_length_eq_zero hB.1];rfl
   rw[hd];clear hA hB hd;go_enter Tryz.func21,Tryz.ntmps21;go_wp2;refine wp_loop_rounds 1 ?_;rw[rounds_succ];go_wp2;go_ret;exact⟨rfl,Below.refl _ _⟩
  ·obtain⟨ba,oa,rfl,la,hca⟩:=hA.2.1 h
   obtain⟨bb,ob,rfl,lb,hcb⟩:=hB.2.1 h;have HC:Aside (Flat w (some ⟨ba,oa,none⟩) n l/\Flat w (some ⟨bb,ob,none⟩) n k/\n<=1000000):=⟨hA,hB,hn⟩
   clear hA hB hca hcb la lb hn;obtain⟨D,hD⟩:∃ D,D=decide (l=k):=⟨_,rfl⟩
   rw[<-hD];have HD:Aside (D=decide (l=k)):=hD;clear hD;go_enter Tryz.func21,Tryz.ntmps21;go_wp2;go_loopg [13] n (fun g s13 wx=>∃ i:Nat,s13=.int .i64 i/\Aside (i+g=n/\Below w.heap.size w wx/\∀ j,j<i->HSH l j=HSH k j))
   case atStart=>exact⟨0,rfl,by omega,Below.refl _ _,fun j hj=>by omega⟩
   case round=>
    obtain⟨i,rfl,A⟩:=hrel;cases gk with
    | zero=>
      obtain rfl:i=n:=by have:=A.out.1;omega
      have hlt:¬ (i:Int)<(i:Int):=by omega
      have hd:Aside (D=true):=by
       show D=true;rw[HD.out,decide_eq_true_iff];exact XM HC.out.1.1 HC.out.2.1.1 A.out.2.2
      clear HD HC;go_wp2;go_ret;exact⟨by rw[hd.out];rfl,A.out.2.1⟩
    | succ g=>
      obtain⟨hig,hbel,hbef⟩:=A.out;have hlt:(i:Int)<(n:Int):=by omega
      have r1:=(HC.out.1.below hbel).at (show i<n by omega)
      have r2:=(HC.out.2.1.below hbel).at (show i<n by omega)
      have l1:=yq HC.out.1.1 (show i<n by omega);have l2:=yq HC.out.2.1.1 (show i<n by omega);have E1:Aside (wrap64 ((i:Int)+1)=((i+1:Nat):Int)):=by have:=HC.out.2.2;show wrap64 ((i:Int)+1)=((i+1:Nat):Int);unfold wrap64;omega
      by_cases he:HSH l i=HSH k i
      ·have B:Aside (i+1+g=n/\∀ j,j<i+1->HSH l j=HSH k j):=⟨by omega,fun j hj=>by
        by_cases e:j=i
        ·rw[e];exact he
        ·exact hbef j (by omega)⟩
       have hdf:(!decide (HSH l i=HSH k i))=false:=by rw[he];simp
       have Z:Aside (Below w.heap.size w wr):=hbel;clear he hig hbel hbef A HD HC;generalize HSH l i=H at *
       generalize HSH k i=K at *
       go_upto_region 6 with fail
       refine Jz _ _ _ _ _ _ _ _ _ _ _ _ _ _ _ _ _ _ _ _ _ _ _ _ w ba oa n ca bb ob n cb i H K l1 l2 hlt hlt ⟨r1,r2,Z.out⟩ (fun _ _ _ _ _ h=>h) ?_;rintro w1 ⟨_,_,q3⟩;rw[hdf];clear r1 r2 l1 l2 hdf;have Z2:Aside (Below w.heap.size w w1):=q3;clear q3 Z;have e1:=E1.out;go_wp2;go_roundg g
       case measure=>exact Nat.lt_succ_self _
       case rel=>exact⟨i+1,by first | rfl | (rw[E1.out]),B.out.1,Z2.out,B.out.2⟩
      ·have hd:Aside (D=false):=by
        show D=false;rw[HD.out,decide_eq_false_iff_not];intro e;rw[e] at he;exact he rfl
       have hdf:(!decide (HSH l i=HSH k i))=true:=by simp[he]
       have Z:Aside (Below w.heap.size w wr):=hbel;clear he hig hbel hbef A HD HC E1;generalize HSH l i=H at *
       generalize HSH k i=K at *
       go_upto_region 6 with fail
       refine Jz _ _ _ _ _ _ _ _ _ _ _ _ _ _ _ _ _ _ _ _ _ _ _ _ w ba oa n ca bb ob n cb i H K l1 l2 hlt hlt ⟨r1,r2,Z.out⟩ (fun _ _ _ _ _ h=>h) ?_;rintro w1 ⟨_,_,q3⟩;rw[hdf];clear r1 r2 l1 l2 hdf;have Z2:Aside (Below w.heap.size w w1):=q3;clear q3 Z;go_wp2;go_ret;exact⟨by rw[hd.out];rfl,Z2.out⟩
 ·have hne:¬ (n:Int)=(m:Int):=by omega
  have hd:decide (l=k)=false:=by
   rw[decide_eq_false_iff_not];intro e;rw[e] at hA;have:=hA.1.symm.trans hB.1;omega
  rw[hd];clear hA hB hd;go_enter Tryz.func21,Tryz.ntmps21;go_wp2;go_ret;exact⟨rfl,Below.refl _ _⟩
end Go.Proofs.YtobaogpomcocpaaGreatDoor
