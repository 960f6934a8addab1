/- ClashAcross: part 11. -/
import Derived.Deep.RegionHeldLaw
import Derived.Test.YtdggkbpabjgdfaaGreatDoorClashAcrossP10
set_option maxHeartbeats 2000000
namespace Go.Proofs.YtdggkbpabjgdfaaGreatDoor.HX
open Go.RowKit
set_option maxRecDepth 100000
theorem Has.whole {w:World} {g:Nat} {F:Nat->Nat} {k:IntKind} {n:Nat} {t:TypeId} (h:Has w g (UARR k n F) t):w.rangeAt g 0 (z0c k n F):=fun j v hv=>by
 have hj:j<n:=by have:=(List.getElem?_eq_some_iff.1 hv).1;rw [z0f] at this;exact this
 rw [z1X _ _ _ _ hj] at hv;rw [Nat.zero_add,h.cell,z0d _ _ _ _ hj,hv]
theorem z2p {B:Nat} {w w':World} {g o:Nat} {cs:List Value} (h:w.rangeAt g o cs) (hb:Below B w w') (hg:g<B):w'.rangeAt g o cs:=fun j v hv=>(hb.cell (by exact hg)).trans (h j v hv)
theorem zaq (d n:Nat) (F G:Nat->Nat) (w:World):∀ is:List Nat,(∀ i∈is,i<n)->(Op.eqItems (d+1) 5 1 (UARR .u8 n F) (UARR .u8 n G) is).run Tryz.prog w=.ok (is.all fun i=>F i == G i) w
 | [],_=>by simp [Op.eqItems]
 | i :: is,h=>by
   have hp:Tryz.prog.plainKey 5=true:=by kernel_rfl
   have hi:i<n:=h i (by simp);have h1:=run_part_plain (P:=Tryz.prog) w hp (z0d .u8 n F i hi);have h2:=run_part_plain (P:=Tryz.prog) w hp (z0d .u8 n G i hi);have h3:=run_equalIn_int (P:=Tryz.prog) w d 5 .u8 .u8 (F i:Nat) (G i:Nat) Tryz.underlying5;have ih:=zaq d n F G w is (fun j hj=>h j (by simp [hj]));rw [Op.eqItems,Nat.mul_one];simp only [Sem.run_bind,h1,h2,h3,Result.andThen_ok];by_cases e:F i=G i
   ·simp [e,ih]
   ·have e2:((F i:Int) == (G i:Int))=false:=by simp;omega
    simp [e2,e]
theorem z3n (F G:Nat->Nat) (w:World):(Op.equalIn 10000 24 (.agg (UARR .u8 32 F)) (.agg (UARR .u8 32 G))).run Tryz.prog w=.ok ((List.range 32).all fun i=>F i == G i) w:=by
 obtain ⟨i8,hi,_⟩:=Option.map_eq_some_iff.1 z0X;rw [run_equalIn_array (P:=Tryz.prog) w 9999 (UARR .u8 32 F) (UARR .u8 32 G) Tryz.underlying24 hi];have hc:Tryz.prog.cellsOf 5=1:=by kernel_rfl
 rw [hc];exact zaq 9998 32 F G w _ (fun i hi=>by simpa using hi)
theorem z3v {ops:Array Oper} {o:Oper} {a:Act} {K:Act->World->Prop} {Q:Exit->Act->World->Prop} {E:Prop} (w:World) (hgd:o.guard=none) (s x:Operand)
  (ho:o.op=.call {callee:=.builtin .append,args:=#[s,x],argTypes:=#[25,25]})
  (base:Nat) (v:Value) (n:Nat) (xs:List Int) (hs:a.eval s=v) (hown:w.ownsRow base 5 1 v n (z01 xs))
  (b off m c:Nat) (l:List Int) (hx:a.eval x=.slice (some ⟨b,off,none⟩) m c) (hB:Bytes w (some ⟨b,off,none⟩) m l)
  (hm:0<m) (hb:n+m<=140737488355328) (hbase:base<=w.heap.size) (N:Nat) (hN:n+m=N)
  (h:∀ g cap w',w'.ownsRow base 5 1 (.slice (some ⟨g,0,none⟩) N cap) N (z01 (xs ++ l))->w.grownBy w' v.ownBlock->(v.ownBlock=some g\/g=w.heap.size)->g<w'.heap.size->K (a.put o.dst (.slice (some ⟨g,0,none⟩) N cap)) w'):if Region.wanted o (yielded ops a.tmps)=true then Oper.wp Tryz.prog o a w K Q else E:=by
 subst hN;obtain ⟨i,hi,hz,hs1,hby⟩:=z1w;obtain ⟨b',off',e,_,hc⟩:=hB.2.1 hm;simp only [Option.some.injEq,Addr.mk.injEq] at e;obtain ⟨rfl,rfl,_⟩:=e;refine step_append_lies w hgd s x 25 ho base 5 i (.int .u8 0) 1 1 Tryz.underlying25 hi hz hs1 hby rfl (by decide) v n (z01 xs) hs hown ⟨b,off,none⟩ m c (z01 l) hx (by simp [z01,hB.1]) ?_ (z1y l) hm (by simp only [maxLen];omega) (by omega) hbase w.heap.size rfl ?_
 ·intro j u hj
  have hjl:j<l.length:=by
   have:=(List.getElem?_eq_some_iff.1 hj).1;simpa [z01] using this
  rw [z0G l j hjl] at hj;rw [z1a,hc j (by rw [<-hB.1];exact hjl)];exact hj
 ·intro g cap w' h1 h2 h3 h4
  rw [<-z0x] at h1;exact h g cap w' h1 h2 h3 h4
theorem zeW {w:World} {base n c:Nat} {a:Option Addr} {l:List Nat} (h:w.ownsRow base 5 1 (.slice a n c) n (z01 (INTS l))) (hl:Small8 l):Text w a n l:=Text.of_bytes (z13 h (z1N hl)).1
theorem zgD {w:World} {base n c s:Nat} {a:Option Addr} {t:TypeId} {xs:List Value} (h:w.ownsRow base t s (.slice a n c) n xs):a=none->c=0:=fun ha=>by
 rcases h.2 with ⟨hv,_⟩ | ⟨g,cap,cur,hv,_⟩
 ·simp at hv
  exact hv.2.2
 ·subst ha
  simp at hv
theorem zdf {w:World} {a:Option Addr} {n c:Nat} {l:List Nat} (hA:Text w a n l) (hnc:n<=c) (hx:∀ x,a=some x->x.block<w.heap.size):Parts (w.alloc (.cells #[.slice a n c] 25)) (some ⟨w.heap.size,0,none⟩) 1 [⟨a,n,c,l⟩]:=
 ⟨rfl,fun _=>⟨w.heap.size,0,rfl,by simp,fun i p hp=>by
  have hi:i<1:=(List.getElem?_eq_some_iff.1 hp).1;obtain rfl:i=0:=by omega
  simp only [List.getElem?_cons_zero,Option.some.injEq] at hp;subst hp;rw [World.cell?_alloc_at _ _ _ _ rfl];rfl⟩,fun p hp=>by
  simp only [List.mem_singleton] at hp;subst hp;exact ⟨hA.below ((Below.refl _ _).alloc (Nat.le_refl _) _),hnc,fun x e=>by have:=hx x e;simp;omega⟩⟩
theorem z5r {w:World} {B n c:Nat} {a:Option Addr} {l:List Nat} (h:w.ownsRow B 5 1 (.slice a n c) n (z01 (INTS l))) (hs:Small8 l):Parts (w.alloc (.cells #[.slice a n c] 25)) (some ⟨w.heap.size,0,none⟩) 1 [⟨a,n,c,l⟩]/\(a=none->c=0):=by
 refine ⟨zdf (zeW h hs) ?_ (fun x e=>?_),zgD h⟩
 ·exact (z13 h (z1N hs)).2
 ·subst e
  rcases h.2 with ⟨e,_⟩ | ⟨g,c2,cur,e,_,hg,_⟩
  ·simp at e
  ·simp only [Value.slice.injEq,Option.some.injEq] at e
   rw [e.1];exact (Array.getElem?_eq_some_iff.1 hg).1
theorem z4Q (a:Option Addr) (n c:Nat) (l:List Nat):JOIN [⟨a,n,c,l⟩]=l:=by simp [JOIN]
theorem z2a {x:Nat} {l:List Nat} (hx:x<256) (h:Small8 l):Small8 (x :: l):=fun y hy=>by
 rcases List.mem_cons.1 hy with rfl | hy
 ·exact hx
 ·exact h y hy
theorem z2k {l k:List Nat} (h1:Small8 l) (h2:Small8 k):Small8 (l ++ k):=fun y hy=>by
 rcases List.mem_append.1 hy with hy | hy
 ·exact h1 y hy
 ·exact h2 y hy
theorem z1d {f:Nat->Nat} (h:∀ i,f i<256):Small8 ((List.range 32).map f):=fun y hy=>by
 obtain ⟨i,_,rfl⟩:=List.mem_map.1 hy;exact h i
theorem z8T (n:Nat):Small8 (BE8 n):=fun y hy=>by
 obtain ⟨i,_,rfl⟩:=List.mem_map.1 hy;exact Nat.mod_lt _ (by decide)
theorem z6J {w:World} (d:Int) {B n c:Nat} {a:Option Addr} {l:List Nat} (h:w.ownsRow B 5 1 (.slice a n c) n (z01 (INTS l))) (hs:Small8 l) (hl:l.length<5000) (hT:Tabled w):
  Calls Tryz.prog 24 #[.int .i64 d,.slice (some ⟨w.heap.size,0,none⟩) 1 1] (w.alloc (.cells #[.slice a n c] 25)) fun e w'=>e=.returned (.agg (UARR .u8 32 (z0b d l)))/\Below (w.alloc (.cells #[.slice a n c] 25)).heap.size (w.alloc (.cells #[.slice a n c] 25)) w':=by
 have:=zeT d _ 1 1 _ _ (z5r h hs).1 (hT.below ((Below.refl _ _).alloc (Nat.le_refl _) _)) (by rw [z4Q];omega) (by decide);rw [z4Q] at this;exact this
theorem zhV (d:Int) (l r:Nat->Nat) (hl:∀ i,l i<256) (hr:∀ i,r i<256) (w:World) (hT:Tabled w):Calls Tryz.prog 102 #[.int .i64 d,.agg (UARR .u8 32 l),.agg (UARR .u8 32 r)] w fun e w'=>e=.returned (.agg (UARR .u8 32 (z0b d (1 :: ((List.range 32).map l ++ (List.range 32).map r)))))/\Below w.heap.size w w':=by
 have hz:=z1g;have ct:=fun W=>z6i l r hl hr W;have H:Aside ((∀ i,l i<256)/\(∀ i,r i<256)/\Tabled w):=⟨hl,hr,hT⟩
 obtain ⟨W,zb,lb,rb,hW,hzb,hlb,hrb,R,h4,h5⟩:∃ W zb lb rb,W=((w.alloc (.cells (UARR .u8 32 l) 24)).alloc (.cells (UARR .u8 32 r) 24)).alloc (.cells (UARR .u8 32 fun _=>0) 24)/\zb=w.heap.size+1+1/\lb=w.heap.size/\rb=w.heap.size+1/\Aside (Has W zb (UARR .u8 32 fun _=>0) 24/\Below w.heap.size w W/\w.heap.size<=zb)/\W.rangeAt lb 0 (z0c .u8 32 l)/\W.rangeAt rb 0 (z0c .u8 32 r):=by
  refine ⟨_,_,_,_,rfl,rfl,rfl,rfl,⟨Has.at _ _ _ (by simp),(((Below.refl _ _).alloc (Nat.le_refl _) _).alloc (by simp) _).alloc (by simp;omega) _,by omega⟩,(((Has.new w _ _).alloc _).alloc _).whole,((Has.at _ _ _ (by simp)).alloc _).whole⟩
 clear hl hr hT;go_enter Tryz.func102,Tryz.ntmps102
 go_wp2_with (first
  | (rw [<-hW];refine wpList_load_mid rfl 24 (.tmp 4) rfl w.heap.size 0 rfl (z0c .u8 32 l) (.array 32 5) (by rw [<-hlb];exact h4) Tryz.underlying24 rfl (by rw [z0f];exact z0U) ?_;rw [<-z0H])
  | (refine wpList_load_mid rfl 24 (.tmp 5) rfl (w.heap.size+1) 0 rfl (z0c .u8 32 r) (.array 32 5) (by rw [<-hrb];exact h5) Tryz.underlying24 rfl (by rw [z0f];exact z0U) ?_;rw [<-z0H]))
 rw [<-hzb];refine (ct _).mono ?_;rintro e w2 ⟨a',c',rfl,hown,hb⟩;rw [<-hW] at hown hb;clear ct h4 h5 hW hzb hlb hrb;have S:Aside (Has w2 zb (UARR .u8 32 fun _=>0) 24/\Below w.heap.size w w2):=⟨R.out.1.keep hb,R.out.2.1.trans (hb.mono R.out.2.1.size)⟩
 have cs:=z6J d hown (z2a (by decide) (z2k (z1d H.out.1) (z1d H.out.2.1))) (by simp) (H.out.2.2.below S.out.2);have Z:Aside (w.heap.size<=zb):=R.out.2.2;clear hown hb R;go_wp2_with fail
 refine cs.mono ?_;rintro e w3 ⟨rfl,hb3⟩;have hb4:Below w2.heap.size w2 w3:=((Below.refl _ _).alloc (Nat.le_refl _) _).trans (hb3.mono (by simp));have S2:Aside (Has w3 zb (UARR .u8 32 fun _=>0) 24/\Below w.heap.size w w3):=⟨S.out.1.keep hb4,S.out.2.trans (hb4.mono S.out.2.size)⟩
 clear cs hb3 hb4 S
 go_wp2_with (first
  | (refine wpList_store_row rfl 24 _ _ rfl _ _ rfl rfl _ _ S2.out.1 (z06 _) (by rw [z03,z03]) (z0p _ _ _) ?_))
 refine bodyPost_ret (v:=.agg (UARR .u8 32 (z0b d (1 :: ((List.range 32).map l ++ (List.range 32).map r))))) ?_ rfl ⟨rfl,z0e S2.out.2 Z.out _⟩;exact results_cell_row rfl _ _ zb 24 _ (0,0) _ rfl (S2.out.1.row _) Tryz.underlying24 rfl (z06 _)
theorem zhW (d:Int) (l r:Nat->Nat) (hl:∀ i,l i<256) (hr:∀ i,r i<256) (w:World) (hT:Tabled w):Calls Tryz.prog 127 #[.int .i64 d,.agg (UARR .u8 32 l),.agg (UARR .u8 32 r)] w fun e w'=>e=.returned (.agg (UARR .u8 32 (z0b d (2 :: ((List.range 32).map l ++ (List.range 32).map r)))))/\Below w.heap.size w w':=by
 have hz:=z1g;have ct:=fun W=>z6j l r hl hr W;have H:Aside ((∀ i,l i<256)/\(∀ i,r i<256)/\Tabled w):=⟨hl,hr,hT⟩
 obtain ⟨W,zb,lb,rb,hW,hzb,hlb,hrb,R,h4,h5⟩:∃ W zb lb rb,W=((w.alloc (.cells (UARR .u8 32 l) 24)).alloc (.cells (UARR .u8 32 r) 24)).alloc (.cells (UARR .u8 32 fun _=>0) 24)/\zb=w.heap.size+1+1/\lb=w.heap.size/\rb=w.heap.size+1/\Aside (Has W zb (UARR .u8 32 fun _=>0) 24/\Below w.heap.size w W/\w.heap.size<=zb)/\W.rangeAt lb 0 (z0c .u8 32 l)/\W.rangeAt rb 0 (z0c .u8 32 r):=by
  refine ⟨_,_,_,_,rfl,rfl,rfl,rfl,⟨Has.at _ _ _ (by simp),(((Below.refl _ _).alloc (Nat.le_refl _) _).alloc (by simp) _).alloc (by simp;omega) _,by omega⟩,(((Has.new w _ _).alloc _).alloc _).whole,((Has.at _ _ _ (by simp)).alloc _).whole⟩
 clear hl hr hT;go_enter Tryz.func127,Tryz.ntmps127
 go_wp2_with (first
  | (rw [<-hW];refine wpList_load_mid rfl 24 (.tmp 4) rfl w.heap.size 0 rfl (z0c .u8 32 l) (.array 32 5) (by rw [<-hlb];exact h4) Tryz.underlying24 rfl (by rw [z0f];exact z0U) ?_;rw [<-z0H])
  | (refine wpList_load_mid rfl 24 (.tmp 5) rfl (w.heap.size+1) 0 rfl (z0c .u8 32 r) (.array 32 5) (by rw [<-hrb];exact h5) Tryz.underlying24 rfl (by rw [z0f];exact z0U) ?_;rw [<-z0H]))
 rw [<-hzb];refine (ct _).mono ?_;rintro e w2 ⟨a',c',rfl,hown,hb⟩;rw [<-hW] at hown hb;clear ct h4 h5 hW hzb hlb hrb;have S:Aside (Has w2 zb (UARR .u8 32 fun _=>0) 24/\Below w.heap.size w w2):=⟨R.out.1.keep hb,R.out.2.1.trans (hb.mono R.out.2.1.size)⟩
 have cs:=z6J d hown (z2a (by decide) (z2k (z1d H.out.1) (z1d H.out.2.1))) (by simp) (H.out.2.2.below S.out.2);have Z:Aside (w.heap.size<=zb):=R.out.2.2;clear hown hb R;go_wp2_with fail
 refine cs.mono ?_;rintro e w3 ⟨rfl,hb3⟩;have hb4:Below w2.heap.size w2 w3:=((Below.refl _ _).alloc (Nat.le_refl _) _).trans (hb3.mono (by simp));have S2:Aside (Has w3 zb (UARR .u8 32 fun _=>0) 24/\Below w.heap.size w w3):=⟨S.out.1.keep hb4,S.out.2.trans (hb4.mono S.out.2.size)⟩
 clear cs hb3 hb4 S
 go_wp2_with (first
  | (refine wpList_store_row rfl 24 _ _ rfl _ _ rfl rfl _ _ S2.out.1 (z06 _) (by rw [z03,z03]) (z0p _ _ _) ?_))
 refine bodyPost_ret (v:=.agg (UARR .u8 32 (z0b d (2 :: ((List.range 32).map l ++ (List.range 32).map r))))) ?_ rfl ⟨rfl,z0e S2.out.2 Z.out _⟩;exact results_cell_row rfl _ _ zb 24 _ (0,0) _ rfl (S2.out.1.row _) Tryz.underlying24 rfl (z06 _)
theorem zhX (d:Int) (n:Nat) (hn:n<2 ^ 64) (r:Nat->Nat) (hr:∀ i,r i<256) (w:World) (hT:Tabled w):Calls Tryz.prog 103 #[.int .i64 d,.int .u64 (n:Int),.agg (UARR .u8 32 r)] w fun e w'=>e=.returned (.agg (UARR .u8 32 (z0b d (3 :: (BE8 n ++ (List.range 32).map r)))))/\Below w.heap.size w w':=by
 have hz:=z1g;have ct:=fun W=>z6k n hn r hr W;have H:Aside ((∀ i,r i<256)/\Tabled w):=⟨hr,hT⟩
 obtain ⟨W,zb,rb,hW,hzb,hrb,R,h5⟩:∃ W zb rb,W=(w.alloc (.cells (UARR .u8 32 r) 24)).alloc (.cells (UARR .u8 32 fun _=>0) 24)/\zb=w.heap.size+1/\rb=w.heap.size/\Aside (Has W zb (UARR .u8 32 fun _=>0) 24/\Below w.heap.size w W/\w.heap.size<=zb)/\W.rangeAt rb 0 (z0c .u8 32 r):=by
  refine ⟨_,_,_,rfl,rfl,rfl,⟨Has.at _ _ _ (by simp),((Below.refl _ _).alloc (Nat.le_refl _) _).alloc (by simp) _,by omega⟩,((Has.new w _ _).alloc _).whole⟩
 clear hn hr hT;go_enter Tryz.func103,Tryz.ntmps103
 go_wp2_with (first
  | (rw [<-hW];refine wpList_load_mid rfl 24 (.tmp 5) rfl w.heap.size 0 rfl (z0c .u8 32 r) (.array 32 5) (by rw [<-hrb];exact h5) Tryz.underlying24 rfl (by rw [z0f];exact z0U) ?_;rw [<-z0H]))
 rw [<-hzb];refine (ct _).mono ?_;rintro e w2 ⟨a',c',rfl,hown,hb⟩;rw [<-hW] at hown hb;clear ct h5 hW hzb hrb;have S:Aside (Has w2 zb (UARR .u8 32 fun _=>0) 24/\Below w.heap.size w w2):=⟨R.out.1.keep hb,R.out.2.1.trans (hb.mono R.out.2.1.size)⟩
 have cs:=z6J d hown (z2a (by decide) (z2k (z8T n) (z1d H.out.1))) (by simp [BE8]) (H.out.2.below S.out.2);have Z:Aside (w.heap.size<=zb):=R.out.2.2;clear hown hb R;go_wp2_with fail
 refine cs.mono ?_;rintro e w3 ⟨rfl,hb3⟩;have hb4:Below w2.heap.size w2 w3:=((Below.refl _ _).alloc (Nat.le_refl _) _).trans (hb3.mono (by simp));have S2:Aside (Has w3 zb (UARR .u8 32 fun _=>0) 24/\Below w.heap.size w w3):=⟨S.out.1.keep hb4,S.out.2.trans (hb4.mono S.out.2.size)⟩
 clear cs hb3 hb4 S
 go_wp2_with (first
  | (refine wpList_store_row rfl 24 _ _ rfl _ _ rfl rfl _ _ S2.out.1 (z06 _) (by rw [z03,z03]) (z0p _ _ _) ?_))
 refine bodyPost_ret (v:=.agg (UARR .u8 32 (z0b d (3 :: (BE8 n ++ (List.range 32).map r))))) ?_ rfl ⟨rfl,z0e S2.out.2 Z.out _⟩;exact results_cell_row rfl _ _ zb 24 _ (0,0) _ rfl (S2.out.1.row _) Tryz.underlying24 rfl (z06 _)
end Go.Proofs.YtdggkbpabjgdfaaGreatDoor.HX
namespace Go.Proofs.YtdggkbpabjgdfaaGreatDoor
open Go.RowKit
set_option maxRecDepth 100000
def LST (f:Nat->Nat):List Int:=(List.range 32).map fun i=>((f i:Nat):Int)
def FNC (h:List Int) (i:Nat):Nat:=(h.getD i 0).toNat
def IsH (h:List Int):Prop:=h.length=32/\∀ x∈h,0<=x/\x<=255
theorem z7r (f:Nat->Nat):(LST f).length=32:=by simp [LST]
theorem z7s {f:Nat->Nat} (h:∀ i,f i<256):IsH (LST f):=⟨z7r f,fun x hx=>by
 obtain ⟨i,_,rfl⟩:=List.mem_map.1 hx;have:=h i;omega⟩
theorem z1D (f:Nat->Nat):HX.UARR .u8 32 f=(z01 (LST f)).toArray:=by
 unfold HX.UARR z01 LST;rw [List.map_map];rfl
theorem z8i {h:List Int} (hh:IsH h):LST (FNC h)=h:=by
 apply List.ext_getElem (by rw [z7r,hh.1]);intro i h1 h2;simp only [LST,List.getElem_map,List.getElem_range,FNC];have:=hh.2 h[i] (List.getElem_mem h2);rw [List.getD_eq_getElem?_getD,List.getElem?_eq_getElem h2,Option.getD_some];omega
theorem z0F {h:List Int} (hh:IsH h):(z01 h).toArray=HX.UARR .u8 32 (FNC h):=by rw [z1D,z8i hh]
theorem z1l {h:List Int} (hh:IsH h) (i:Nat):FNC h i<256:=by
 unfold FNC;by_cases hi:i<h.length
 ·rw [List.getD_eq_getElem?_getD,List.getElem?_eq_getElem hi,Option.getD_some]
  have:=hh.2 h[i] (List.getElem_mem hi);omega
 ·rw [List.getD_eq_getElem?_getD,List.getElem?_eq_none (by omega)]
  decide
def NATS (h:List Int):List Nat:=(List.range 32).map (FNC h)
def z0o (d:Int) (l r:List Int):List Int:=LST (HX.z0b d (1 :: (NATS l ++ NATS r)))
def z1u (d:Int) (l r:List Int):List Int:=LST (HX.z0b d (2 :: (NATS l ++ NATS r)))
def z0z (d:Int) (n:Nat) (r:List Int):List Int:=LST (HX.z0b d (3 :: (HX.BE8 n ++ NATS r)))
theorem z1r (d:Int) (l r:List Int):IsH (z0o d l r):=z7s fun i=>HX.z2X d _ _ i
theorem z6K (d:Int) (l r:List Int):IsH (z1u d l r):=z7s fun i=>HX.z2X d _ _ i
theorem z2x (d:Int) (n:Nat) (r:List Int):IsH (z0z d n r):=z7s fun i=>HX.z2X d _ _ i
theorem zgE (d:Int) (l r:List Int) (hl:IsH l) (hr:IsH r) (w:World) (hT:HX.Tabled w):Calls Tryz.prog 102 #[.int .i64 d,.agg (z01 l).toArray,.agg (z01 r).toArray] w fun e w'=>e=.returned (.agg (z01 (z0o d l r)).toArray)/\Below w.heap.size w w':=by
 rw [z0F hl,z0F hr];refine (HX.zhV d (FNC l) (FNC r) (z1l hl) (z1l hr) w hT).mono ?_;rintro e w' ⟨rfl,hb⟩;exact ⟨by rw [z1D];rfl,hb⟩
theorem zgF (d:Int) (l r:List Int) (hl:IsH l) (hr:IsH r) (w:World) (hT:HX.Tabled w):Calls Tryz.prog 127 #[.int .i64 d,.agg (z01 l).toArray,.agg (z01 r).toArray] w fun e w'=>e=.returned (.agg (z01 (z1u d l r)).toArray)/\Below w.heap.size w w':=by
 rw [z0F hl,z0F hr];refine (HX.zhW d (FNC l) (FNC r) (z1l hl) (z1l hr) w hT).mono ?_;rintro e w' ⟨rfl,hb⟩;exact ⟨by rw [z1D];rfl,hb⟩
theorem zgG (d:Int) (n:Nat) (hn:n<2 ^ 64) (r:List Int) (hr:IsH r) (w:World) (hT:HX.Tabled w):Calls Tryz.prog 103 #[.int .i64 d,.int .u64 (n:Int),.agg (z01 r).toArray] w fun e w'=>e=.returned (.agg (z01 (z0z d n r)).toArray)/\Below w.heap.size w w':=by
 rw [z0F hr];refine (HX.zhX d n hn (FNC r) (z1l hr) w hT).mono ?_;rintro e w' ⟨rfl,hb⟩;exact ⟨by rw [z1D];rfl,hb⟩
theorem zhY {l k:List Int} {n:Nat} (hl:l.length=32*n) (hk:k.length=32*n) (h:∀ i,i<n->HSH l i=HSH k i):l=k:=by
 have e:∀ i,i<=n->l.take (32*i)=k.take (32*i):=by
  intro i;induction i with
  | zero=>intro _;simp
  | succ i ih=>intro hi;rw [z3E,z3E,ih (by omega),h i (by omega)]
 have:=e n (Nat.le_refl _);rwa [List.take_of_length_le (by omega),List.take_of_length_le (by omega)] at this
theorem zeX {w:World} {base g n cap:Nat} {l:List Int} {x:Int} (h:w.ownsRow base 5 1 (.slice (some ⟨g,0,none⟩) (n+1) cap) (n+1) (z01 (l ++ [x]))) (hl:l.length=n):w.ownsRow base 5 1 (.slice (some ⟨g,0,none⟩) n cap) n (z01 l)/\n+1<=cap/\w.cell? ⟨g,n,none⟩=some (.int .u8 x):=by
 have hc:=h.cellAt n (by omega)
 have hx:(z01 (l ++ [x]))[n]?=some (.int .u8 x):=by
  rw [<-hl];simp [z01]
 rcases h.2 with ⟨e,_⟩ | ⟨g',cap',cur,e,hb,hg,h1,h2,h3,h4⟩
 ·cases e
 ·cases e
  refine ⟨⟨by rw [z01,List.length_map,hl,Nat.mul_one],.inr ⟨g,cap,cur,rfl,hb,hg,by omega,h2,h3,?_⟩⟩,h1,hc.trans hx⟩;have h5:=congrArg (List.take (n*1)) h4;rw [List.take_take,show min (n*1) ((n+1)*1)=n*1 by omega] at h5;rw [h5,z0x,List.take_left' (by rw [z01,List.length_map,hl,Nat.mul_one])]
def z7t (w:World) (n:Nat) (l:List Int) (e:Ending) (w':World):Prop:=
 ∃ g cap,e=.returned (.slice (some ⟨g,0,none⟩) n cap)/\w'.ownsRow w.heap.size 5 1 (.slice (some ⟨g,0,none⟩) n cap) n (z01 l)/\n+1<=cap/\w'.cell? ⟨g,n,none⟩=some (.int .u8 171)/\g<w'.heap.size/\Below w.heap.size w w'
theorem zeY {l k:List Int} {n:Nat} (hl:l.length=n) (hk:k.length=n) (h:∀ j,j<n->l.getD j 0=k.getD j 0):l=k:=by
 apply List.ext_getElem (by omega);intro i h1 h2;have:=h i (by omega);simpa [List.getD,h1,h2] using this
theorem z1S (a b:Option Addr) (n m ca cb:Nat) (l k:List Int) (w:World) (hA:Bytes w a n l) (hB:Bytes w b m k) (hn:n<=1000000):Calls Tryz.prog 22 #[.slice a n ca,.slice b m cb] w fun e w'=>e=.returned (.bool (decide (l=k)))/\Below w.heap.size w w':=by
 by_cases hnm:n=m
 ·subst hnm
  rcases Nat.eq_zero_or_pos n with h | h
  ·subst h
   have hd:decide (l=k)=true:=by
    rw [List.eq_nil_of_length_eq_zero hA.1,List.eq_nil_of_length_eq_zero hB.1];rfl
   rw [hd];clear hA hB hd;go_enter Tryz.func22,Tryz.ntmps22;go_wp2;refine wp_loop_rounds 1 ?_;rw [rounds_succ];go_wp2;go_ret;exact ⟨rfl,Below.refl _ _⟩
  ·obtain ⟨ba,oa,rfl,la,hca⟩:=hA.2.1 h
   obtain ⟨bb,ob,rfl,lb,hcb⟩:=hB.2.1 h;have HC:Aside ((∀ i,i<n->w.cell? ⟨ba,oa+i,none⟩=some (.int .u8 (l.getD i 0)))/\(∀ i,i<n->w.cell? ⟨bb,ob+i,none⟩=some (.int .u8 (k.getD i 0)))/\ba<w.heap.size/\bb<w.heap.size/\l.length=n/\k.length=n/\n<=1000000):=⟨hca,hcb,la,lb,hA.1,hB.1,hn⟩
   clear hA hB hca hcb la lb hn;obtain ⟨D,hD⟩:∃ D,D=decide (l=k):=⟨_,rfl⟩
   rw [<-hD];have HD:Aside (D=decide (l=k)):=hD;clear hD;go_enter Tryz.func22,Tryz.ntmps22;go_wp2;go_loopg [5] n (fun g s5 wx=>∃ i:Nat,s5=.int .i64 i/\Aside (i+g=n/\Below w.heap.size w wx/\∀ j,j<i->l.getD j 0=k.getD j 0))
   case atStart=>exact ⟨0,rfl,by omega,Below.refl _ _,fun j hj=>by omega⟩
   case round=>
    obtain ⟨i,rfl,A⟩:=hrel;cases gk with
    | zero=>
      obtain rfl:i=n:=by have:=A.out.1;omega
      have hlt:¬ (i:Int)<(i:Int):=by omega
      have hd:Aside (D=true):=by
       show D=true;rw [HD.out,decide_eq_true_iff];exact zeY HC.out.2.2.2.2.1 HC.out.2.2.2.2.2.1 A.out.2.2
      clear HD HC;go_wp2;go_ret;exact ⟨by rw [hd.out];rfl,A.out.2.1⟩
    | succ g=>
      obtain ⟨hig,hbel,hbef⟩:=A.out;have hlt:(i:Int)<(n:Int):=by omega
      have h1:wr.cell? ⟨ba,oa+i,none⟩=some (.int .u8 (l.getD i 0)):=(hbel.cell (by exact HC.out.2.2.1)).trans (HC.out.1 i (by omega));have h2:wr.cell? ⟨bb,ob+i,none⟩=some (.int .u8 (k.getD i 0)):=(hbel.cell (by exact HC.out.2.2.2.1)).trans (HC.out.2.1 i (by omega));have E1:Aside (wrap64 ((i:Int)+1)=((i+1:Nat):Int)):=by have:=HC.out.2.2.2.2.2.2;show wrap64 ((i:Int)+1)=((i+1:Nat):Int);unfold wrap64;omega
      by_cases he:l.getD i 0=k.getD i 0
      ·have B:Aside (i+1+g=n/\Below w.heap.size w wr/\∀ j,j<i+1->l.getD j 0=k.getD j 0):=⟨by omega,hbel,fun j hj=>by
              by_cases e:j=i
              ·rw [e];exact he
              ·exact hbef j (by omega)⟩
       rw [<-he] at h2;clear he hig hbel hbef A HD HC;generalize l.getD i 0=v at h1 h2;have e1:=E1.out;go_wp2;go_quiet (fail)
       go_wp2;go_roundg g
       case measure=>exact Nat.lt_succ_self _
       case rel=>exact ⟨i+1,by first | rfl | (rw [E1.out]),B.out.1,below_drewN B.out.2.1 _,B.out.2.2⟩
      ·have hd:Aside (D=false):=by
              show D=false;rw [HD.out,decide_eq_false_iff_not];intro e;rw [e] at he;exact he rfl
       have Z:Aside (Below w.heap.size w wr):=hbel;clear hig hbel hbef A HD HC E1;generalize l.getD i 0=v1 at h1 he;generalize k.getD i 0=v2 at h2 he;go_wp2;go_quiet (fail)
       go_wp2;go_ret;exact ⟨by rw [hd.out];rfl,below_drewN Z.out _⟩
 ·have hne:¬ (n:Int)=(m:Int):=by omega
  have hd:decide (l=k)=false:=by
   rw [decide_eq_false_iff_not];intro e;rw [e] at hA;exact hnm (hA.1.symm.trans hB.1)
  rw [hd];clear hA hB hd;go_enter Tryz.func22,Tryz.ntmps22;go_wp2;go_ret;exact ⟨rfl,Below.refl _ _⟩
theorem Flat.none_nil {w:World} {n:Nat} {l:List Int} (h:Flat w none n l):n=0/\l=[]:=by
 have h0:n=0:=by
  rcases Nat.eq_zero_or_pos n with h0 | h0
  ·exact h0
  ·obtain ⟨_,_,e,_⟩:=h.2.1 h0
   cases e
 subst h0;exact ⟨rfl,List.eq_nil_of_length_eq_zero h.1⟩
theorem z2l {w:World} {B n:Nat} {v:Value} {xs:List Value} (h:w.ownsRow B 24 32 v n xs):∃ a c,v=.slice a n c/\n<=c/\(0<n->∃ g,a=some ⟨g,0,none⟩):=by
 rcases h.2 with ⟨rfl,h0⟩ | ⟨g,cap,cur,rfl,_,_,h1,_⟩
 ·subst h0
  exact ⟨none,0,rfl,Nat.le_refl _,fun h=>by omega⟩
 ·exact ⟨_,_,rfl,h1,fun _=>⟨g,rfl⟩⟩
theorem zdg {ops:Array Oper} {rest:List Oper} {o:Oper} {a:Act} {Q:Exit->Act->World->Prop} (w:World) (hgd:o.guard=none) (s x:Operand)
   (ho:o.op=.call {callee:=.builtin .append,args:=#[s,x],argTypes:=#[38,38]})
   (base:Nat) (v:Value) (n:Nat) (xs:List Value) (hs:a.eval s=v) (hown:w.ownsRow base 24 32 v n xs)
   (ad:Option Addr) (m c:Nat) (l:List Int) (hx:a.eval x=.slice ad m c) (hL:Flat w ad m l) (hc:ad=none->c=0)
   (hb:n+m<=100000) (hbase:base<=w.heap.size)
   (hh:∀ a' c' w',w'.ownsRow base 24 32 (.slice a' (n+m) c') (n+m) (xs ++ z01 l)->w.grownBy w' v.ownBlock->wpList Tryz.prog ops Q rest (a.put o.dst (.slice a' (n+m) c')) w'):wpList Tryz.prog ops Q (o :: rest) a w:=by
 obtain ⟨i,hi,hz,hs1,hby⟩:=info_parts z1A;cases ad with
 | none=>
   obtain rfl:=hc rfl;obtain ⟨rfl,rfl⟩:=hL.none_nil;refine wpList_append_own_none hgd s x 38 ho base 24 i 32 Tryz.underlying38 hi v n xs hs hown hx ?_;obtain ⟨a',c',rfl,_,_⟩:=z2l hown;have:=hh a' c' w (by simpa [z01] using hown) (z3k _ _);simpa using this
 | some ad=>
   have hcells:∀ j u,(z01 l)[j]?=some u->w.cell? (ad.add j)=some u:=by
    intro j u hu
    have hj:j<l.length:=by
     have:=(List.getElem?_eq_some_iff.1 hu).1;simpa [z01] using this
    have hl:=hL.1;obtain ⟨g,o',e,_,hc'⟩:=hL.2.1 (by omega);cases e;rw [z1a,hc' j (by omega),<-hu,z0G l j hj]
   refine wpList_append_own w hgd s x 38 ho base 24 i _ 32 32 Tryz.underlying38 hi hz hs1 hby rfl (by decide) v n xs hs hown ad m c (z01 l) hx (by rw [z01,List.length_map,hL.1];omega) hcells (z1y l) (by simp only [maxLen];omega) (by omega) hbase ?_;intro v' w' h1 h2 _;obtain ⟨a',c',rfl,_,_⟩:=z2l h1;exact hh a' c' w' h1 h2
theorem zby (w:World):(w.alloc (.cells #[] 24)).ownsRow w.heap.size 24 32 (.slice (some ⟨w.heap.size,0,none⟩) 0 0) 0 []:=
 World.ownsRow_lit w #[] 0 (Nat.le_refl _) (by simp [maxLen]) rfl
theorem z2p {w w':World} {g o:Nat} {cs:List Value} (h:w.rangeAt g o cs) (hb:Below w.heap.size w w') (hg:g<w.heap.size):w'.rangeAt g o cs:=fun j v hv=>(hb.cell (p:=⟨g,o+j,none⟩) hg).trans (h j v hv)
theorem Flat.other {w:World} {b o n:Nat} {l:List Int} (h:Flat w (some ⟨b,o,none⟩) n l) {a:Addr} (ha:b≠a.block) (u:Value):Flat (w.setCell a u) (some ⟨b,o,none⟩) n l:=
 ⟨h.1,fun hn=>by
  obtain ⟨b',o',e,hl,hc⟩:=h.2.1 hn;cases e;exact ⟨b,o,rfl,Nat.lt_of_lt_of_le hl (KeepsWalks.setCell w a u).size,fun j hj=>(World.cell?_setCell_other w _ _ u (fun e=>ha (congrArg Addr.block e).symm)).trans (hc j hj)⟩,h.2.2⟩
theorem z1c {w:World} {B n:Nat} {a:Option Addr} {c:Nat} {l:List Int} (h:w.ownsRow B 24 32 (.slice a n c) n (z01 l)) (hr:∀ x∈l,0<=x/\x<=255):Flat w a n l:=by
 have hl:l.length=32*n:=by have:=h.1;simpa [z01,Nat.mul_comm] using this
 refine ⟨hl,fun hn=>?_,hr⟩;rcases h.2 with ⟨e,h0⟩ | ⟨g,cap,cur,e,_,hg,_⟩
 ·omega
 ·cases e
  refine ⟨g,0,rfl,(Array.getElem?_eq_some_iff.1 hg).1,fun j hj=>?_⟩;have:=h.cellAt j (by omega);rw [Nat.zero_add,this,z0G l j (by omega)]
theorem z4R {w:World} {g n:Nat} {l:List Int} (h:Has w g (z01 l).toArray 24) (hl:l.length=32*n) (hr:∀ x∈l,0<=x/\x<=255):Flat w (some ⟨g,0,none⟩) n l:=
 ⟨hl,fun _=>⟨g,0,rfl,h.lt,fun j hj=>by rw [Nat.zero_add,h.cell,List.getElem?_toArray,z0G l j (by omega)]⟩,hr⟩
theorem Bytes.take {w:World} {a:Option Addr} {n:Nat} {l:List Int} (h:Bytes w a n l) {m:Nat} (hm:m<=n):Bytes w a m (l.take m):=by
 refine ⟨by rw [List.length_take,h.1];omega,fun h0=>?_,fun x hx=>h.2.2 x (List.mem_of_mem_take hx)⟩;obtain ⟨b,o,e,hb,hc⟩:=h.2.1 (by omega);refine ⟨b,o,e,hb,fun i hi=>?_⟩;rw [hc i (by omega),List.getD_eq_getElem?_getD,List.getD_eq_getElem?_getD,List.getElem?_take,if_pos hi]
def HAND (ss:List (Nat × Nat)) (l:List Int):Nat->Nat->Nat->List Int
 | 0=>fun _ _=>ZND
 | i+1=>MPUT (HAND ss l i) (ss.getD i (0,0)).1 (ss.getD i (0,0)).2 (HSH l i)
theorem z7u (v:Value) (N:Nat) (hv:∃ a' c',v=.slice a' N c') (a:Option Addr) (n c:Nat) (hn:n≠N) (w:World):Calls Tryz.prog 69 #[v,.slice a n c] w fun e w'=>e=.returned (.tuple #[.map none,.int .i64 70])/\w=w':=by
 obtain ⟨a',c',rfl⟩:=hv;have h1:¬ (n:Int)=(N:Int):=by omega
 clear hn;go_enter Tryz.func69,Tryz.ntmps69;go_wp2;go_ret2;exact ⟨rfl,rfl⟩
def zji (w:World) (n:Nat) (M:Nat->Nat->List Int) (e:Ending) (w':World):Prop:=∃ b,e=.returned (.tuple #[.map (some b),.int .i64 0])/\SMAP w' b n M/\w.heap.size<=b/\Below w.heap.size w w'
theorem z3o {w w':World} {g o:Nat} {cs:List Value} (h:w.rangeAt g o cs) (hb:w'.heap[g]?=w.heap[g]?):w'.rangeAt g o cs:=fun j v hv=>(World.cell?_of_block (a:=⟨g,o+j,none⟩) hb).trans (h j v hv)
theorem z0D {w:World} {g:Nat} {l:List Int} {t:TypeId} (h:Has w g (z01 l).toArray t):w.rangeAt g 0 (z01 l):=fun j v hv=>by rw [Nat.zero_add,h.cell,List.getElem?_toArray];exact hv
theorem z8U (ss:List (Nat × Nat)) (hN:∀ s∈ss,Node s.1 s.2) (B n:Nat) (hss:ss.length=n) (hn:n<=1000) (v:Value) (a:Option Addr) (c:Nat) (l:List Int) (w:World) (hv:w.ownsRow B 22 1 v n (z04 (PLCS ss))) (hF:Flat w a n l):
  Calls Tryz.prog 69 #[v,.slice a n c] w (zji w n (HAND ss l n)):=by
 obtain ⟨ap,cp,rfl,hap⟩:=z0P hv;have HA:Aside ((∀ s∈ss,Node s.1 s.2)/\ss.length=n/\n<=1000/\Flat w a n l/\(0<n->∃ g,ap=some ⟨g,0,none⟩/\g<w.heap.size)/\w.ownsRow B 22 1 (.slice ap n cp) n (z04 (PLCS ss))):=⟨hN,hss,hn,hF,fun h=>by obtain ⟨g,e,h1,_⟩:=hap h;exact ⟨g,e,h1⟩,hv⟩
 have M0:Aside (SMAP (w.alloc (.map #[] 0)) w.heap.size 0 (HAND ss l 0)/\Below w.heap.size w (w.alloc (.map #[] 0))):=⟨SMAP.made w,(Below.refl _ _).alloc (Nat.le_refl _) _⟩
 have hmk:(Instr.makeMap 110 none).run Tryz.prog w=.ok (.map (some w.heap.size)) (w.alloc (.map #[] 0)):=rfl;clear hN hss hn hF hap hv;go_enter Tryz.func69,Tryz.ntmps69;go_wp2_with fail
 go_loopg [19] n (fun q s19 wx=>∃ i:Nat,s19=.int .i64 (i:Int)/\Aside (i+q=n/\Below w.heap.size w wx/\SMAP wx w.heap.size i (HAND ss l i)))
 case atStart=>exact ⟨0,rfl,by omega,M0.out.2,M0.out.1⟩
 case round=>
  obtain ⟨i,rfl,A⟩:=hrel;clear M0;cases gk with
  | zero=>
    obtain rfl:i=n:=by have:=A.out.1;omega
    have hlt:¬ (i:Int)<(i:Int):=by omega
    have R:Aside (SMAP wr w.heap.size i (HAND ss l i)/\Below w.heap.size w wr):=⟨A.out.2.2,A.out.2.1⟩
    clear A HA;go_wp2;go_ret2;exact ⟨_,rfl,R.out.1,Nat.le_refl _,R.out.2⟩
  | succ q=>
    obtain ⟨a1,a2,a3⟩:=A.out;obtain ⟨h1,h2,h3,h4,h5,h6⟩:=HA.out;have hlt:(i:Int)<(n:Int):=by omega
    obtain ⟨gp,rfl,hgp⟩:=h5 (by omega);obtain ⟨gn,o,rfl,hgn,hcn⟩:=h4.2.1 (by omega);obtain ⟨⟨h,k⟩,hs⟩:∃ s,ss[i]?=some s:=⟨_,List.getElem?_eq_getElem (by omega)⟩
    have hNd:Node h k:=h1 (h,k) (List.mem_of_getElem? hs)
    have hcp:wr.cell? ⟨gp,i,none⟩=some (.int .u64 ((PLC h k:Nat):Int)):=by
     refine (a2.cell (p:=⟨gp,i,none⟩) hgp).trans ?_;rw [h6.cellAt i (by omega)];simp [z04,PLCS,hs]
    have hat:=(h4.below a2).at (show i<n by omega)
    have h32:=z16 h4.1 (show i<n by omega);have hnx:HAND ss l (i+1)=MPUT (HAND ss l i) h k (HSH l i):=by rw [HAND,List.getD_eq_getElem?_getD,hs];rfl
    have R:Aside (i+1+q=n/\Below w.heap.size w wr/\SMAP wr w.heap.size i (HAND ss l i)/\gn<w.heap.size/\Node h k/\HAND ss l (i+1)=MPUT (HAND ss l i) h k (HSH l i)/\n<=1000/\wr.rangeAt gn (o+i*32) (z01 (HSH l i))):=⟨by omega,a2,a3,hgn,hNd,hnx,h3,hat⟩
    have cS:=z85 h k hNd wr;have E1:Aside (wrap64 ((i:Int)+1)=((i+1:Nat):Int)):=by show wrap64 ((i:Int)+1)=((i+1:Nat):Int);unfold wrap64;omega
    clear a1 a2 a3 h1 h2 h3 h4 h5 h6 hgp hgn hcn hs hNd hat hnx A HA;generalize PLC h k=pl at *
    go_wp2_with fail
    refine cS.mono ?_;rintro e w1 ⟨rfl,hb1⟩;clear cS hcp;have hbx:Below w1.heap.size w1 (w1.alloc (.cells #[.int .u8 (h:Int),.int .u64 (k:Int)] 77)):=(Below.refl _ _).alloc (Nat.le_refl _) _;obtain ⟨b9,hb9⟩:∃ b9,b9=w1.heap.size:=⟨_,rfl⟩
    have R2:Aside (Below w.heap.size w (w1.alloc (.cells #[.int .u8 (h:Int),.int .u64 (k:Int)] 77))/\SMAP (w1.alloc (.cells #[.int .u8 (h:Int),.int .u64 (k:Int)] 77)) w.heap.size i (HAND ss l i)/\Has (w1.alloc (.cells #[.int .u8 (h:Int),.int .u64 (k:Int)] 77)) b9 #[.int .u8 (h:Int),.int .u64 (k:Int)] 77/\(w1.alloc (.cells #[.int .u8 (h:Int),.int .u64 (k:Int)] 77)).rangeAt gn (o+i*32) (z01 (HSH l i))/\w.heap.size<b9):=by
     obtain ⟨r1,r2,r3,r4,r5,r6,r7,r8⟩:=R.out;have t1:=r2.trans (hb1.mono r2.size);refine ⟨t1.trans (hbx.mono t1.size),(r3.below hb1).below hbx,by rw [hb9];exact Has.new _ _ _,?_,?_⟩
     ·exact z3o (z3o r8 (hb1.block gn (by have:=r2.size;omega))) (hbx.block gn (by have:=t1.size;omega))
     ·rw [hb9]
      exact (r3.below hb1).lt
    go_upto_region 8 with fail
    rw [<-hb9];clear hb1 hbx hb9;generalize w1.alloc (.cells #[.int .u8 (h:Int),.int .u64 (k:Int)] 77)=w2 at *
    refine z9u _ _ _ _ _ _ _ _ _ _ _ _ _ _ _ _ _ _ _ _ _ _ _ _ _ _ _ _ _ _ _ _ _ _ w.heap.size b9 gn o n c i h k (HSH l i) h32 hlt (fun W=>Below w.heap.size w W/\SMAP W w.heap.size i (HAND ss l i)/\Has W b9 #[.int .u8 (h:Int),.int .u64 (k:Int)] 77/\W.rangeAt gn (o+i*32) (z01 (HSH l i))) (fun W=>Below w.heap.size w W/\SMAP W w.heap.size (i+1) (HAND ss l (i+1))/\Has W b9 #[.int .u8 (h:Int),.int .u64 (k:Int)] 77/\W.rangeAt gn (o+i*32) (z01 (HSH l i)))
     (fun W ⟨_,_,p,q⟩=>⟨p.cell 0,p.cell 1,q⟩) (fun W ⟨_,_,p,q⟩=>⟨p.cell 0,p.cell 1,q⟩) ?_ ⟨R2.out.1.drew,R2.out.2.1.at rfl,R2.out.2.2.1,z3o R2.out.2.2.2.1 rfl⟩ (fun _ _ _ _ _ h=>h) ?_
    ·rintro W ⟨p1,p2,p3,p4⟩
     obtain ⟨r1,r2,r3,r4,r5,r6,r7,r8⟩:=R.out;obtain ⟨w',q1,q2,q3⟩:=p2.store (h:=h) (k:=k) (by omega) (by have:=r5.1;omega) (by have:=r5.index_lt;omega) (HSH l i);have hb9':=R2.out.2.2.2.2;refine ⟨w',q1,p1.grown q3 p1.size (fun k e=>by cases e;exact Nat.le_refl _),by rw [r6];exact q2,(q3.block b9 p3.lt (by simp;omega)).trans p3,z3o p4 (q3.block gn (by have:=p1.size;omega) (by simp;omega))⟩
    ·rintro W ⟨p1,p2,p3,p4⟩
     have Z:Aside (i+1+q=n/\Below w.heap.size w W/\SMAP W w.heap.size (i+1) (HAND ss l (i+1))):=⟨R.out.1,p1,p2⟩
     clear p1 p2 p3 p4 R R2 h32;have e1:=E1.out;go_wp2;go_roundg q
     case measure=>exact Nat.lt_succ_self _
     case rel=>exact ⟨i+1,by first | rfl | (rw [E1.out]),Z.out⟩
theorem zce (mb n h h1 k:Nat) (d:Int) (M:Nat->Nat->List Int) (hh:h=h1+1) (hh2:h<200) (hk:2*k+1<2 ^ 64) (hn:n<=10000) (w:World) (hM:SMAP w mb n M) (hL:IsH (M h1 (2*k))) (hR:IsH (M h1 (2*k+1))) (hT:HX.Tabled w) (hmb:2<mb):
  Calls Tryz.prog 70 #[.map (some mb),.int .i64 d,.agg #[.int .u8 (h:Int),.int .u64 (k:Int)]] w fun e w'=>e=.returned (.tuple #[])/\SMAP w' mb (n+1) (MPUT M h k (z0o d (M h1 (2*k)) (M h1 (2*k+1))))/\w.grownBy w' (some mb):=by
 obtain ⟨L,hLe⟩:∃ L,M h1 (2*k)=L:=⟨_,rfl⟩
 obtain ⟨R,hRe⟩:∃ R,M h1 (2*k+1)=R:=⟨_,rfl⟩
 rw [hLe] at hL ⊢;rw [hRe] at hR ⊢;obtain ⟨k2,hk2⟩:∃ k2,2*k=k2:=⟨_,rfl⟩
 obtain ⟨k3,hk3⟩:∃ k3,k2+1=k3:=⟨_,rfl⟩
 have e1:IntKind.u8.wrap ((h:Int) - 1)=(h1:Int):=by simp [IntKind.wrap,IntKind.bits,IntKind.signed];omega
 have e2:IntKind.u64.wrap (2*(k:Int))=(k2:Int):=by rw [z08];omega
 have e3:IntKind.u64.wrap ((k2:Int)+1)=(k3:Int):=by rw [z08];omega
 have HA:Aside (h<200/\h1<200/\(k2<2 ^ 64/\k3<2 ^ 64)/\k<2 ^ 64/\n<=10000/\SMAP w mb n M/\M h1 k2=L/\M h1 k3=R/\IsH L/\IsH R/\HX.Tabled w/\2<mb):=⟨hh2,by omega,by omega,by omega,hn,hM,by rw [<-hk2];exact hLe,by rw [<-hk3,<-hk2];exact hRe,hL,hR,hT,hmb⟩
 have l32:L.length=32:=hL.1;have r32:R.length=32:=hR.1
 have LK:Aside (∀ W,Below w.heap.size w W->(Instr.lookup 110 (.map (some mb)) (.agg #[.int .u8 (h1:Int),.int .u64 (k2:Int)]) false).run Tryz.prog W=.ok (.agg (z01 L).toArray) W/\(Instr.lookup 110 (.map (some mb)) (.agg #[.int .u8 (h1:Int),.int .u64 (k3:Int)]) false).run Tryz.prog W=.ok (.agg (z01 R).toArray) W):=fun W hb=>by
  have h1':=(HA.out.2.2.2.2.2.1.below hb).look (h:=h1) (k:=k2) (by have:=HA.out;omega) (by have:=HA.out;omega);have h2':=(HA.out.2.2.2.2.2.1.below hb).look (h:=h1) (k:=k3) (by have:=HA.out;omega) (by have:=HA.out;omega);rw [HA.out.2.2.2.2.2.2.1] at h1';rw [HA.out.2.2.2.2.2.2.2.1] at h2';exact ⟨h1',h2'⟩
 clear hh hh2 hk hn hM hLe hRe hk2 hk3 hL hR hT hmb;go_enter Tryz.func70,Tryz.ntmps70;go_upto_region 1 with fail
 obtain ⟨b5,hb5⟩:∃ b5,b5=w.heap.size:=⟨_,rfl⟩
 have R1:Aside (Below w.heap.size w (w.alloc (.cells #[.int .u8 (h:Int),.int .u64 (k:Int)] 77))/\Has (w.alloc (.cells #[.int .u8 (h:Int),.int .u64 (k:Int)] 77)) b5 #[.int .u8 (h:Int),.int .u64 (k:Int)] 77/\w.heap.size<=b5):=⟨(Below.refl _ _).alloc (Nat.le_refl _) _,by rw [hb5];exact Has.new _ _ _,by rw [hb5];exact Nat.le_refl _⟩
 rw [<-hb5];clear hb5;generalize w.alloc (.cells #[.int .u8 (h:Int),.int .u64 (k:Int)] 77)=W1 at *
 have lk1:=(LK.out _ R1.out.1).1;have hz0:W1.cell? ⟨b5,0,none⟩=some (.int .u8 (h:Int)):=R1.out.2.1.cell 0;have hz1:W1.cell? ⟨b5,1,none⟩=some (.int .u64 (k:Int)):=R1.out.2.1.cell 1;go_upto_region 2 with (refine wpList_store_row rfl 24 (.tmp 6) (.tmp 16) rfl _ _ rfl rfl 24 _ (Has.new W1 _ _) (z02 l32) (by simp [z01,l32]) (z0k L) ?_;rw [World.setRow_alloc_new])
 obtain ⟨b6,hb6⟩:∃ b6,b6=W1.heap.size:=⟨_,rfl⟩
 have R2:Aside (Below w.heap.size w (W1.alloc (.cells (z01 L).toArray 24))/\Has (W1.alloc (.cells (z01 L).toArray 24)) b5 #[.int .u8 (h:Int),.int .u64 (k:Int)] 77/\w.heap.size<=b5/\Has (W1.alloc (.cells (z01 L).toArray 24)) b6 (z01 L).toArray 24/\w.heap.size<=b6):=⟨R1.out.1.alloc R1.out.1.size _,R1.out.2.1.alloc _,R1.out.2.2,by rw [hb6];exact Has.new _ _ _,by rw [hb6];exact R1.out.1.size⟩
 rw [<-hb6];clear hb6 lk1 hz0 hz1 R1;generalize W1.alloc (.cells (z01 L).toArray 24)=W2 at *
 have lk2:=(LK.out _ R2.out.1).2;have hz0:W2.cell? ⟨b5,0,none⟩=some (.int .u8 (h:Int)):=R2.out.2.1.cell 0;have hz1:W2.cell? ⟨b5,1,none⟩=some (.int .u64 (k:Int)):=R2.out.2.1.cell 1;go_upto_region 3 with (refine wpList_store_row rfl 24 (.tmp 7) (.tmp 26) rfl _ _ rfl rfl 24 _ (Has.new W2 _ _) (z02 r32) (by simp [z01,r32]) (z0k R) ?_;rw [World.setRow_alloc_new])
 obtain ⟨b7,hb7⟩:∃ b7,b7=W2.heap.size:=⟨_,rfl⟩
 have R3:Aside (Below w.heap.size w (W2.alloc (.cells (z01 R).toArray 24))/\Has (W2.alloc (.cells (z01 R).toArray 24)) b5 #[.int .u8 (h:Int),.int .u64 (k:Int)] 77/\w.heap.size<=b5/\Has (W2.alloc (.cells (z01 R).toArray 24)) b6 (z01 L).toArray 24/\w.heap.size<=b6/\Has (W2.alloc (.cells (z01 R).toArray 24)) b7 (z01 R).toArray 24/\w.heap.size<=b7):=⟨R2.out.1.alloc R2.out.1.size _,R2.out.2.1.alloc _,R2.out.2.2.1,R2.out.2.2.2.1.alloc _,R2.out.2.2.2.2,by rw [hb7];exact Has.new _ _ _,by rw [hb7];exact R2.out.1.size⟩
 rw [<-hb7];clear hb7 lk2 hz0 hz1 R2;generalize W2.alloc (.cells (z01 R).toArray 24)=W3 at *
 refine zbo _ _ _ _ _ _ _ _ _ _ _ _ _ _ _ _ _ _ _ _ _ _ _ _ _ _ _ _ _ mb b5 b6 b7 h k d L R l32 r32 (fun W=>Below w.heap.size w W/\Has W b5 #[.int .u8 (h:Int),.int .u64 (k:Int)] 77/\Has W b6 (z01 L).toArray 24/\Has W b7 (z01 R).toArray 24) (fun X W=>X=.agg (z01 (z0o d L R)).toArray/\Below w.heap.size w W/\Has W b5 #[.int .u8 (h:Int),.int .u64 (k:Int)] 77/\Has W b6 (z01 L).toArray 24/\Has W b7 (z01 R).toArray 24) (fun _ W=>SMAP W mb (n+1) (MPUT M h k (z0o d L R))/\w.grownBy W (some mb)/\Has W b5 #[.int .u8 (h:Int),.int .u64 (k:Int)] 77/\Has W b6 (z01 L).toArray 24/\Has W b7 (z01 R).toArray 24)
  (fun W ⟨_,p,q,r⟩=>⟨p.cell 0,p.cell 1,z0D q,z0D r⟩) (fun X W ⟨_,_,p,q,r⟩=>⟨p.cell 0,p.cell 1,z0D q,z0D r⟩) (fun X W ⟨_,_,p,q,r⟩=>⟨p.cell 0,p.cell 1,z0D q,z0D r⟩) ?_ ?_ ⟨R3.out.1.drew,R3.out.2.1,R3.out.2.2.2.1,R3.out.2.2.2.2.2.1⟩ (fun _ _ _ _ _ h=>h) ?_
 ·rintro W ⟨p1,p2,p3,p4⟩
  obtain ⟨a1,a2,a3,a4,a5,a6,a7,a8,a9,a10,a11,a12⟩:=HA.out;refine (zgE d L R a9 a10 W (a11.below p1)).mono ?_;rintro e w' ⟨rfl,hb⟩;exact ⟨_,rfl,rfl,p1.trans (hb.mono p1.size),p2.keep hb,p3.keep hb,p4.keep hb⟩
 ·rintro X W ⟨rfl,p1,p2,p3,p4⟩
  obtain ⟨a1,a2,a3,a4,a5,a6,a7,a8,a9,a10,a11,a12⟩:=HA.out;have hml:=a6.lt;have r:=R3.out;obtain ⟨w',q1,q2,q3⟩:=(a6.below p1).store (h:=h) (k:=k) (by omega) (by omega) a4 (z0o d L R);refine ⟨w',q1,q2,⟨q3.os.trans p1.os,q3.tape.trans p1.tape,q3.output.trans p1.output,Nat.le_trans p1.size q3.size,fun j hj hne=>(q3.block j (by have:=p1.size;omega) hne).trans (p1.block j hj)⟩,(q3.block b5 p2.lt (by simp;omega)).trans p2,(q3.block b6 p3.lt (by simp;omega)).trans p3,(q3.block b7 p4.lt (by simp;omega)).trans p4⟩
 ·rintro X W ⟨p1,p2,p3,p4,p5⟩
  have Z:Aside (SMAP W mb (n+1) (MPUT M h k (z0o d L R))/\w.grownBy W (some mb)):=⟨p1,p2⟩
  clear p1 p2 p3 p4 p5 R3 LK HA;go_wp2;exact bodyPost_end (v:=.tuple #[]) (by simp [results,Tryz.f70]) rfl ⟨rfl,Z.out⟩
def CAT (M:Nat->Nat->List Int) (ss:List (Nat × Nat)):List Int:=ss.flatMap fun s=>M s.1 s.2
theorem zdh {M:Nat->Nat->List Int} {ss:List (Nat × Nat)} (h:∀ s∈ss,(M s.1 s.2).length=32):(CAT M ss).length=32*ss.length:=by
 induction ss with
 | nil=>rfl
 | cons a l ih=>
   have h1:=h a (by simp);have h2:=ih (fun s hs=>h s (by simp [hs]));simp only [CAT,List.flatMap_cons,List.length_append,List.length_cons] at *
   omega
theorem z4S {M:Nat->Nat->List Int} {ss:List (Nat × Nat)} {i h k:Nat} (hs:ss[i]?=some (h,k)):CAT M (ss.take (i+1))=CAT M (ss.take i) ++ M h k:=by
 rw [List.take_add_one,hs];simp [CAT]
theorem z5s (mb N n:Nat) (hn:n<=4611686018427387904) (M:Nat->Nat->List Int) (w:World) (hM:SMAP w mb N M) (hH:∀ s∈SPAN 0 n,(M s.1 s.2).length=32) (hT:Tabled w) (h0:0<w.heap.size):
  Calls Tryz.prog 71 #[.map (some mb),.int .u64 (n:Int)] w fun e w'=>∃ a c,e=.returned (.slice a (PC n) c)/\w'.ownsRow w.heap.size 24 32 (.slice a (PC n) c) (PC n) (z01 (CAT M (SPAN 0 n)))/\Below w.heap.size w w':=by
 have cP:=z6C n hn w hT h0;have hpl:=z31 hn
 have hlen:(SPAN 0 n).length=PC n:=by
  have:=z1Q (n:=n) (by omega);rw [hpl] at this;simpa [PLCS] using this
 have hnd:∀ i h k,(SPAN 0 n)[i]?=some (h,k)->Node h k:=fun i h k e=>(z0T hn (Nat.zero_le n)).node e;have hpc:PC n<=64:=z0C 64 n (by omega);rw [hpl] at cP;generalize SPAN 0 n=ss at *
 generalize PC n=m at *
 have HA:Aside (ss.length=m/\m<=64/\(∀ i h k,ss[i]?=some (h,k)->Node h k)/\(∀ s∈ss,(M s.1 s.2).length=32)/\SMAP w mb N M):=⟨hlen,hpc,hnd,hH,hM⟩
 clear hlen hpc hnd hH hM hpl hT h0 hn;go_enter Tryz.func71,Tryz.ntmps71;go_wp2_with fail
 refine cP.mono ?_;rintro e w1 ⟨gp,cp,rfl,hrow,hb⟩;clear cP;obtain ⟨cur,hcs,hmk⟩:=zd3 m (by have:=HA.out;omega) w1;have hgp:=(hrow.lt gp rfl).2
 have R0:Aside ((w1.alloc (.cells cur 24)).ownsRow w.heap.size 24 32 (.slice (some ⟨w1.heap.size,0,none⟩) 0 m) 0 (z01 (CAT M (ss.take 0)))/\Below w.heap.size w (w1.alloc (.cells cur 24))/\(∀ i,i<m->(w1.alloc (.cells cur 24)).cell? ⟨gp,i,none⟩=(z04 (PLCS ss))[i]?)/\gp<(w1.alloc (.cells cur 24)).heap.size/\gp≠w1.heap.size/\w1.heap.size<(w1.alloc (.cells cur 24)).heap.size):=by
  refine ⟨z0q (World.ownsRow_made w1 cur m (Nat.le_refl _) (by simp [maxLen];have:=HA.out;omega) hcs) hb.size,hb.alloc hb.size _,fun i hi=>?_,by simp;omega,by omega,by simp⟩;have hbx:Below w1.heap.size w1 (w1.alloc (.cells cur 24)):=(Below.refl _ _).alloc (Nat.le_refl _) _;exact (hbx.cell (p:=⟨gp,i,none⟩) hgp).trans (hrow.cellAt i (by omega))
 clear hrow hb hcs hgp;go_wp2_with fail
 obtain ⟨gl,hgl⟩:∃ gl,gl=w1.heap.size:=⟨_,rfl⟩
 rw [<-hgl] at R0 ⊢;clear hgl hmk;generalize w1.alloc (.cells cur 24)=w2 at *
 go_loopg [6,18] m (fun q s6 s18 wx=>∃ i:Nat,s18=.int .i64 (i:Int)/\Aside (i+q=m/\wx.ownsRow w.heap.size 24 32 s6 i (z01 (CAT M (ss.take i)))/\Below w.heap.size w wx/\(∀ i,i<m->wx.cell? ⟨gp,i,none⟩=(z04 (PLCS ss))[i]?)/\gp<wx.heap.size/\s6.ownBlock≠some gp))
 case atStart=>exact ⟨0,rfl,by omega,R0.out.1,R0.out.2.1,R0.out.2.2.1,R0.out.2.2.2.1,fun e=>R0.out.2.2.2.2.1 (by simpa [Value.ownBlock] using e.symm)⟩
 case round=>
  obtain ⟨i,rfl,A⟩:=hrel;clear R0;cases gk with
  | zero=>
    obtain rfl:i=m:=by have:=A.out.1;omega
    have hlt:¬ (i:Int)<(i:Int):=by omega
    have R:Aside (∃ a c,u6=.slice a i c/\wr.ownsRow w.heap.size 24 32 (.slice a i c) i (z01 (CAT M ss))/\Below w.heap.size w wr):=by
     obtain ⟨_,h1,h2,_⟩:=A.out;rw [List.take_of_length_le (by have:=HA.out;omega)] at h1;obtain ⟨a,c,rfl,_⟩:=z2l h1;exact ⟨a,c,rfl,h1,h2⟩
    clear A HA;go_wp2;go_ret;obtain ⟨a,c,e,h1,h2⟩:=R.out;exact ⟨a,c,by rw [e];rfl,h1,h2⟩
  | succ q=>
    obtain ⟨a1,a2,a3,a4,a5,a6⟩:=A.out;obtain ⟨h1,h2,h3,h4,h5⟩:=HA.out;have hlt:(i:Int)<(m:Int):=by omega
    obtain ⟨⟨h,k⟩,hs⟩:∃ s,ss[i]?=some s:=⟨_,List.getElem?_eq_getElem (by omega)⟩
    have hN:=h3 i h k hs;have hc:wr.cell? ⟨gp,i,none⟩=some (.int .u64 ((PLC h k:Nat):Int)):=by rw [a4 i (by omega)];simp [z04,PLCS,hs]
    have cS:=z85 h k hN wr;have h32:(M h k).length=32:=h4 (h,k) (List.mem_of_getElem? hs);have R:Aside (i+1+q=m/\wr.ownsRow w.heap.size 24 32 u6 i (z01 (CAT M (ss.take i)))/\Below w.heap.size w wr/\(∀ i,i<m->wr.cell? ⟨gp,i,none⟩=(z04 (PLCS ss))[i]?)/\gp<wr.heap.size/\u6.ownBlock≠some gp/\CAT M (ss.take (i+1))=CAT M (ss.take i) ++ M h k/\m<=64/\Node h k/\SMAP w mb N M):=⟨by omega,a2,a3,a4,a5,a6,z4S hs,h2,hN,h5⟩
    have E1:Aside (wrap64 ((i:Int)+1)=((i+1:Nat):Int)):=by show wrap64 ((i:Int)+1)=((i+1:Nat):Int);unfold wrap64;omega
    clear a1 a2 a3 a4 a5 a6 h1 h2 h3 h4 h5 hs hN A HA;generalize PLC h k=pl at *
    go_wp2_with fail
    refine cS.mono ?_;rintro e w3 ⟨rfl,hb3⟩;clear cS hc;have R3:Aside (w3.ownsRow w.heap.size 24 32 u6 i (z01 (CAT M (ss.take i)))/\Below w.heap.size w w3/\(∀ i,i<m->w3.cell? ⟨gp,i,none⟩=(z04 (PLCS ss))[i]?)/\gp<w3.heap.size):=⟨z0m R.out.2.1 hb3,R.out.2.2.1.trans (hb3.mono R.out.2.2.1.size),fun i hi=>(hb3.cell (p:=⟨gp,i,none⟩) R.out.2.2.2.2.1).trans (R.out.2.2.2.1 i hi),Nat.lt_of_lt_of_le R.out.2.2.2.2.1 hb3.size⟩
    clear hb3
    have lk:(Instr.lookup 110 (.map (some mb)) (.agg #[.int .u8 (h:Int),.int .u64 (k:Int)]) false).run Tryz.prog (w3.alloc (.cells #[.int .u8 (h:Int),.int .u64 (k:Int)] 77))=.ok (.agg (z01 (M h k)).toArray) (w3.alloc (.cells #[.int .u8 (h:Int),.int .u64 (k:Int)] 77)):=by
     have hb4:=R3.out.2.1.alloc (o:=.cells #[.int .u8 (h:Int),.int .u64 (k:Int)] 77) R3.out.2.1.size;obtain ⟨_,_,_,_,_,_,_,_,r9,r10⟩:=R.out;exact (r10.below hb4).look (by have:=r9.1;omega) (by have:=r9.index_lt;omega)
    generalize M h k=H at *
    go_wp2_with (first
     | (refine z1B _ rfl 38 24 (.tmp 30) rfl (z01 H).toArray rfl 32 _ _ Tryz.underlying38 z1A (by simp [z01,h32]) rfl (by decide) (by decide) ?_)
     | (at_builtin;refine z2V _ rfl (.tmp 27) (.tmp 31) rfl w.heap.size u6 i _ rfl ((R3.out.1.alloc _).alloc _) _ 1 H h32 rfl (Has.new _ _ _) (by have:=R.out;omega) (by have:=R3.out.2.1.size;simp;omega) ?_;intro g4 c4 w4 hown hgrow hat hg))
    have Z:Aside (i+1+q=m/\w4.ownsRow w.heap.size 24 32 (.slice (some ⟨g4,0,none⟩) (i+1) c4) (i+1) (z01 (CAT M (ss.take (i+1))))/\Below w.heap.size w w4/\(∀ i,i<m->w4.cell? ⟨gp,i,none⟩=(z04 (PLCS ss))[i]?)/\gp<w4.heap.size/\(Value.slice (some ⟨g4,0,none⟩) (i+1) c4).ownBlock≠some gp):=by
     obtain ⟨r1,r2,r3,r4,r5,r6,r7,r8,r9,r10⟩:=R.out;obtain ⟨t1,t2,t3,t4⟩:=R3.out;have hsz:=zd1 hgrow;simp at hsz;refine ⟨r1,by rw [r7,z0x];exact hown,((t2.alloc t2.size _).alloc (by have:=t2.size;simp;omega) _).grown hgrow (by have:=t2.size;simp;omega) (fun k e=>(t1.lt k e).1),fun j hj=>?_,by omega,fun e=>?_⟩
     ·rw [<-t3 j hj]
      have hbx:Below w3.heap.size w3 ((w3.alloc (.cells #[.int .u8 (h:Int),.int .u64 (k:Int)] 77)).alloc (.cells (z01 H).toArray 24)):=((Below.refl _ _).alloc (Nat.le_refl _) _).alloc (by simp) _;exact (World.cell?_of_block (a:=⟨gp,j,none⟩) (hgrow.block gp (by simp;omega) fun e=>r6 e.symm)).trans (hbx.cell (p:=⟨gp,j,none⟩) t4)
     ·have e:g4=gp:=by simpa [Value.ownBlock] using e
      rcases hat with h' | h'
      ·exact r6 (by rw [h',e])
      ·simp at h'
       omega
    clear hown hgrow hat hg R R3 lk h32;have e1:=E1.out;go_wp2;go_roundg q
    case measure=>exact Nat.lt_succ_self _
    case rel=>exact ⟨i+1,by first | rfl | (rw [E1.out]),Z.out⟩
end Go.Proofs.YtdggkbpabjgdfaaGreatDoor
