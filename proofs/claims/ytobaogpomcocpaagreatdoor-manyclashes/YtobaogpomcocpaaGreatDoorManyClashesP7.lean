/- ManyClashes: part 7. -/
import Derived.Deep.RegionHeldLaw
import Derived.Test.YtobaogpomcocpaaGreatDoorManyClashesP6
set_option maxRecDepth 100000
set_option maxHeartbeats 1000000
open Go.RowKit
namespace Go.Proofs.YtobaogpomcocpaaGreatDoor
namespace HX
theorem qR{ops:Array Oper}{o:Oper}{a:Act}{K:Act->World->Prop}{Q:Exit->Act->World->Prop}{E:Prop}(w:World)(hgd:o.guard=none)(s x:Operand)
  (ho:o.op=.call {callee:=.builtin .append,args:=#[s,x],argTypes:=#[27,27]})
  (base:Nat) (v:Value) (n:Nat) (xs:List Int) (hs:a.eval s=v) (hown:w.ownsRow base 5 1 v n (za xs))
  (b off m c:Nat) (l:List Int) (hx:a.eval x=.slice (some ⟨b,off,none⟩) m c) (hB:Bytes w (some ⟨b,off,none⟩) m l)
  (hm:0<m) (hb:n+m<=140737488355328) (hbase:base<=w.heap.size) (N:Nat) (hN:n+m=N)
  (h:∀ g cap w',w'.ownsRow base 5 1 (.slice (some ⟨g,0,none⟩) N cap) N (za (xs ++ l))->w.grownBy w' v.ownBlock->(v.ownBlock=some g\/g=w.heap.size)->g<w'.heap.size->K (a.put o.dst (.slice (some ⟨g,0,none⟩) N cap)) w'):if Region.wanted o (yielded ops a.tmps)=true then Oper.wp Tryz.prog o a w K Q else E:=by
 subst hN;obtain⟨i,hi,hz,hs1,hby⟩:=qk;obtain⟨b',off',e,_,hc⟩:=hB.2.1 hm;simp only[Option.some.injEq,Addr.mk.injEq] at e;obtain⟨rfl,rfl,_⟩:=e;refine step_append_lies w hgd s x 27 ho base 5 i (.int .u8 0) 1 1 Tryz.underlying27 hi hz hs1 hby rfl (by decide) v n (za xs) hs hown ⟨b,off,none⟩ m c (za l) hx (by simp[za,hB.1]) ?_ (yf l) hm (by simp only[maxLen];omega) (by omega) hbase w.heap.size rfl ?_
 ·intro j u hj
  have hjl:j<l.length:=by
   have:=(List.getElem?_eq_some_iff.1 hj).1;simpa[za] using this
  rw[zN l j hjl] at hj;rw[zY,hc j (by rw[<-hB.1];exact hjl)];exact hj
 ·intro g cap w' h1 h2 h3 h4
  rw[<-yp] at h1;exact h g cap w' h1 h2 h3 h4
theorem G6{w:World}{base n c:Nat}{a:Option Addr}{l:List Nat}(h:w.ownsRow base 5 1 (.slice a n c) n (za (INTS l)))(hl:Small8 l):Text w a n l:=Text.of_bytes (jW h (qo hl)).1
theorem MU{w:World}{base n c s:Nat}{a:Option Addr}{t:TypeId}{xs:List Value}(h:w.ownsRow base t s (.slice a n c) n xs):a=none->c=0:=fun ha=>by
 rcases h.2 with ⟨hv,_⟩ | ⟨g,cap,cur,hv,_⟩
 ·simp at hv
  exact hv.2.2
 ·subst ha
  simp at hv
theorem gz{w:World}{a:Option Addr}{n c:Nat}{l:List Nat}(hA:Text w a n l)(hnc:n<=c)(hx:∀ x,a=some x->x.block<w.heap.size):Parts (w.alloc (.cells #[.slice a n c] 27)) (some ⟨w.heap.size,0,none⟩) 1 [⟨a,n,c,l⟩]:=
 ⟨rfl,fun _=>⟨w.heap.size,0,rfl,by simp,fun i p hp=>by
  have hi:i<1:=(List.getElem?_eq_some_iff.1 hp).1;obtain rfl:i=0:=by omega
  simp only[List.getElem?_cons_zero,Option.some.injEq] at hp;subst hp;rw[World.cell?_alloc_at _ _ _ _ rfl];rfl⟩,fun p hp=>by
  simp only[List.mem_singleton] at hp;subst hp;exact⟨hA.below ((Below.refl _ _).alloc (Nat.le_refl _) _),hnc,fun x e=>by have:=hx x e;simp;omega⟩⟩
theorem YU{w:World}{B n c:Nat}{a:Option Addr}{l:List Nat}(h:w.ownsRow B 5 1 (.slice a n c) n (za (INTS l)))(hs:Small8 l):Parts (w.alloc (.cells #[.slice a n c] 27)) (some ⟨w.heap.size,0,none⟩) 1 [⟨a,n,c,l⟩]/\(a=none->c=0):=by
 refine⟨gz (G6 h hs) ?_ (fun x e=>?_),MU h⟩
 ·exact(jW h (qo hs)).2
 ·subst e
  rcases h.2 with ⟨e,_⟩ | ⟨g,c2,cur,e,_,hg,_⟩
  ·simp at e
  ·simp only[Value.slice.injEq,Option.some.injEq] at e
   rw[e.1];exact(Array.getElem?_eq_some_iff.1 hg).1
theorem ZD(a:Option Addr)(n c:Nat)(l:List Nat):JOIN [⟨a,n,c,l⟩]=l:=by simp[JOIN]
theorem qt{x:Nat}{l:List Nat}(hx:x<256)(h:Small8 l):Small8 (x :: l):=fun y hy=>by
 rcases List.mem_cons.1 hy with rfl | hy
 ·exact hx
 ·exact h y hy
theorem qA{l k:List Nat}(h1:Small8 l)(h2:Small8 k):Small8 (l ++ k):=fun y hy=>by
 rcases List.mem_append.1 hy with hy | hy
 ·exact h1 y hy
 ·exact h2 y hy
theorem yP{f:Nat->Nat}(h:∀ i,f i<256):Small8 ((List.range 32).map f):=fun y hy=>by
 obtain⟨i,_,rfl⟩:=List.mem_map.1 hy;exact h i
theorem vM(n:Nat):Small8 (BE8 n):=fun y hy=>by
 obtain⟨i,_,rfl⟩:=List.mem_map.1 hy;exact Nat.mod_lt _ (by decide)
theorem Xc{w:World}(d:Int){B n c:Nat}{a:Option Addr}{l:List Nat}(h:w.ownsRow B 5 1 (.slice a n c) n (za (INTS l)))(hs:Small8 l)(hl:l.length<5000)(hT:Tabled w):
  Calls Tryz.prog 31 #[.int .i64 d,.slice (some ⟨w.heap.size,0,none⟩) 1 1] (w.alloc (.cells #[.slice a n c] 27)) fun e w'=>e=.returned (.agg (UARR .u8 32 (zu d l)))/\Below (w.alloc (.cells #[.slice a n c] 27)).heap.size (w.alloc (.cells #[.slice a n c] 27)) w':=by
 have:=Uj d _ 1 1 _ _ (YU h hs).1 (hT.below ((Below.refl _ _).alloc (Nat.le_refl _) _)) (by rw[ZD];omega) (by decide);rw[ZD] at this;exact this
theorem z1p(d:Int)(l r:Nat->Nat)(hl:∀ i,l i<256)(hr:∀ i,r i<256)(w:World)(hT:Tabled w):Calls Tryz.prog 116 #[.int .i64 d,.agg (UARR .u8 32 l),.agg (UARR .u8 32 r)] w fun e w'=>e=.returned (.agg (UARR .u8 32 (zu d (1 :: ((List.range 32).map l ++ (List.range 32).map r)))))/\Below w.heap.size w w':=by
 have hz:=zZ;have ct:=fun W=>JF l r hl hr W;have H:Aside ((∀ i,l i<256)/\(∀ i,r i<256)/\Tabled w):=⟨hl,hr,hT⟩
 obtain⟨W,zb,lb,rb,hW,hzb,hlb,hrb,R,h4,h5⟩:∃ W zb lb rb,W=((w.alloc (.cells (UARR .u8 32 l) 23)).alloc (.cells (UARR .u8 32 r) 23)).alloc (.cells (UARR .u8 32 fun _=>0) 23)/\zb=w.heap.size+1+1/\lb=w.heap.size/\rb=w.heap.size+1/\Aside (Has W zb (UARR .u8 32 fun _=>0) 23/\Below w.heap.size w W/\w.heap.size<=zb)/\W.rangeAt lb 0 (zi .u8 32 l)/\W.rangeAt rb 0 (zi .u8 32 r):=by
  refine⟨_,_,_,_,rfl,rfl,rfl,rfl,⟨Has.at _ _ _ (by simp),(((Below.refl _ _).alloc (Nat.le_refl _) _).alloc (by simp) _).alloc (by simp;omega) _,by omega⟩,(((Has.new w _ _).alloc _).alloc _).whole,((Has.at _ _ _ (by simp)).alloc _).whole⟩
 clear hl hr hT;go_enter Tryz.func116,Tryz.ntmps116
 go_wp2_with (first
  | (rw[<-hW];refine wpList_load_mid rfl 23 (.tmp 4) rfl w.heap.size 0 rfl (zi .u8 32 l) (.array 32 5) (by rw[<-hlb];exact h4) Tryz.underlying23 rfl (by rw[zD];exact yr) ?_;rw[<-zS])
  | (refine wpList_load_mid rfl 23 (.tmp 5) rfl (w.heap.size+1) 0 rfl (zi .u8 32 r) (.array 32 5) (by rw[<-hrb];exact h5) Tryz.underlying23 rfl (by rw[zD];exact yr) ?_;rw[<-zS]))
 rw[<-hzb];refine(ct _).mono ?_;rintro e w2 ⟨a',c',rfl,hown,hb⟩;rw[<-hW] at hown hb;clear ct h4 h5 hW hzb hlb hrb;have S:Aside (Has w2 zb (UARR .u8 32 fun _=>0) 23/\Below w.heap.size w w2):=⟨R.out.1.keep hb,R.out.2.1.trans (hb.mono R.out.2.1.size)⟩
 have cs:=Xc d hown (qt (by decide) (qA (yP H.out.1) (yP H.out.2.1))) (by simp) (H.out.2.2.below S.out.2);have Z:Aside (w.heap.size<=zb):=R.out.2.2;clear hown hb R;go_wp2_with fail
 refine cs.mono ?_;rintro e w3 ⟨rfl,hb3⟩;have hb4:Below w2.heap.size w2 w3:=((Below.refl _ _).alloc (Nat.le_refl _) _).trans (hb3.mono (by simp));have S2:Aside (Has w3 zb (UARR .u8 32 fun _=>0) 23/\Below w.heap.size w w3):=⟨S.out.1.keep hb4,S.out.2.trans (hb4.mono S.out.2.size)⟩
 clear cs hb3 hb4 S
 go_wp2_with (first
  | (refine wpList_store_row rfl 23 _ _ rfl _ _ rfl rfl _ _ S2.out.1 (zn _) (by rw[zg,zg]) (zA _ _ _) ?_))
 refine bodyPost_ret (v:=.agg (UARR .u8 32 (zu d (1 :: ((List.range 32).map l ++ (List.range 32).map r))))) ?_ rfl ⟨rfl,zm S2.out.2 Z.out _⟩;exact results_cell_row rfl _ _ zb 23 _ (0,0) _ rfl (S2.out.1.row _) Tryz.underlying23 rfl (zn _)
theorem z1q(d:Int)(l r:Nat->Nat)(hl:∀ i,l i<256)(hr:∀ i,r i<256)(w:World)(hT:Tabled w):Calls Tryz.prog 108 #[.int .i64 d,.agg (UARR .u8 32 l),.agg (UARR .u8 32 r)] w fun e w'=>e=.returned (.agg (UARR .u8 32 (zu d (2 :: ((List.range 32).map l ++ (List.range 32).map r)))))/\Below w.heap.size w w':=by
 have hz:=zZ;have ct:=fun W=>JG l r hl hr W;have H:Aside ((∀ i,l i<256)/\(∀ i,r i<256)/\Tabled w):=⟨hl,hr,hT⟩
 obtain⟨W,zb,lb,rb,hW,hzb,hlb,hrb,R,h4,h5⟩:∃ W zb lb rb,W=((w.alloc (.cells (UARR .u8 32 l) 23)).alloc (.cells (UARR .u8 32 r) 23)).alloc (.cells (UARR .u8 32 fun _=>0) 23)/\zb=w.heap.size+1+1/\lb=w.heap.size/\rb=w.heap.size+1/\Aside (Has W zb (UARR .u8 32 fun _=>0) 23/\Below w.heap.size w W/\w.heap.size<=zb)/\W.rangeAt lb 0 (zi .u8 32 l)/\W.rangeAt rb 0 (zi .u8 32 r):=by
  refine⟨_,_,_,_,rfl,rfl,rfl,rfl,⟨Has.at _ _ _ (by simp),(((Below.refl _ _).alloc (Nat.le_refl _) _).alloc (by simp) _).alloc (by simp;omega) _,by omega⟩,(((Has.new w _ _).alloc _).alloc _).whole,((Has.at _ _ _ (by simp)).alloc _).whole⟩
 clear hl hr hT;go_enter Tryz.func108,Tryz.ntmps108
 go_wp2_with (first
  | (rw[<-hW];refine wpList_load_mid rfl 23 (.tmp 4) rfl w.heap.size 0 rfl (zi .u8 32 l) (.array 32 5) (by rw[<-hlb];exact h4) Tryz.underlying23 rfl (by rw[zD];exact yr) ?_;rw[<-zS])
  | (refine wpList_load_mid rfl 23 (.tmp 5) rfl (w.heap.size+1) 0 rfl (zi .u8 32 r) (.array 32 5) (by rw[<-hrb];exact h5) Tryz.underlying23 rfl (by rw[zD];exact yr) ?_;rw[<-zS]))
 rw[<-hzb];refine(ct _).mono ?_;rintro e w2 ⟨a',c',rfl,hown,hb⟩;rw[<-hW] at hown hb;clear ct h4 h5 hW hzb hlb hrb;have S:Aside (Has w2 zb (UARR .u8 32 fun _=>0) 23/\Below w.heap.size w w2):=⟨R.out.1.keep hb,R.out.2.1.trans (hb.mono R.out.2.1.size)⟩
 have cs:=Xc d hown (qt (by decide) (qA (yP H.out.1) (yP H.out.2.1))) (by simp) (H.out.2.2.below S.out.2);have Z:Aside (w.heap.size<=zb):=R.out.2.2;clear hown hb R;go_wp2_with fail
 refine cs.mono ?_;rintro e w3 ⟨rfl,hb3⟩;have hb4:Below w2.heap.size w2 w3:=((Below.refl _ _).alloc (Nat.le_refl _) _).trans (hb3.mono (by simp));have S2:Aside (Has w3 zb (UARR .u8 32 fun _=>0) 23/\Below w.heap.size w w3):=⟨S.out.1.keep hb4,S.out.2.trans (hb4.mono S.out.2.size)⟩
 clear cs hb3 hb4 S
 go_wp2_with (first
  | (refine wpList_store_row rfl 23 _ _ rfl _ _ rfl rfl _ _ S2.out.1 (zn _) (by rw[zg,zg]) (zA _ _ _) ?_))
 refine bodyPost_ret (v:=.agg (UARR .u8 32 (zu d (2 :: ((List.range 32).map l ++ (List.range 32).map r))))) ?_ rfl ⟨rfl,zm S2.out.2 Z.out _⟩;exact results_cell_row rfl _ _ zb 23 _ (0,0) _ rfl (S2.out.1.row _) Tryz.underlying23 rfl (zn _)
theorem z1r(d:Int)(n:Nat)(hn:n<2 ^ 64)(r:Nat->Nat)(hr:∀ i,r i<256)(w:World)(hT:Tabled w):Calls Tryz.prog 76 #[.int .i64 d,.int .u64 (n:Int),.agg (UARR .u8 32 r)] w fun e w'=>e=.returned (.agg (UARR .u8 32 (zu d (3 :: (BE8 n ++ (List.range 32).map r)))))/\Below w.heap.size w w':=by
 have hz:=zZ;have ct:=fun W=>JH n hn r hr W;have H:Aside ((∀ i,r i<256)/\Tabled w):=⟨hr,hT⟩
 obtain⟨W,zb,rb,hW,hzb,hrb,R,h5⟩:∃ W zb rb,W=(w.alloc (.cells (UARR .u8 32 r) 23)).alloc (.cells (UARR .u8 32 fun _=>0) 23)/\zb=w.heap.size+1/\rb=w.heap.size/\Aside (Has W zb (UARR .u8 32 fun _=>0) 23/\Below w.heap.size w W/\w.heap.size<=zb)/\W.rangeAt rb 0 (zi .u8 32 r):=by
  refine⟨_,_,_,rfl,rfl,rfl,⟨Has.at _ _ _ (by simp),((Below.refl _ _).alloc (Nat.le_refl _) _).alloc (by simp) _,by omega⟩,((Has.new w _ _).alloc _).whole⟩
 clear hn hr hT;go_enter Tryz.func76,Tryz.ntmps76
 go_wp2_with (first
  | (rw[<-hW];refine wpList_load_mid rfl 23 (.tmp 5) rfl w.heap.size 0 rfl (zi .u8 32 r) (.array 32 5) (by rw[<-hrb];exact h5) Tryz.underlying23 rfl (by rw[zD];exact yr) ?_;rw[<-zS]))
 rw[<-hzb];refine(ct _).mono ?_;rintro e w2 ⟨a',c',rfl,hown,hb⟩;rw[<-hW] at hown hb;clear ct h5 hW hzb hrb;have S:Aside (Has w2 zb (UARR .u8 32 fun _=>0) 23/\Below w.heap.size w w2):=⟨R.out.1.keep hb,R.out.2.1.trans (hb.mono R.out.2.1.size)⟩
 have cs:=Xc d hown (qt (by decide) (qA (vM n) (yP H.out.1))) (by simp[BE8]) (H.out.2.below S.out.2);have Z:Aside (w.heap.size<=zb):=R.out.2.2;clear hown hb R;go_wp2_with fail
 refine cs.mono ?_;rintro e w3 ⟨rfl,hb3⟩;have hb4:Below w2.heap.size w2 w3:=((Below.refl _ _).alloc (Nat.le_refl _) _).trans (hb3.mono (by simp));have S2:Aside (Has w3 zb (UARR .u8 32 fun _=>0) 23/\Below w.heap.size w w3):=⟨S.out.1.keep hb4,S.out.2.trans (hb4.mono S.out.2.size)⟩
 clear cs hb3 hb4 S
 go_wp2_with (first
  | (refine wpList_store_row rfl 23 _ _ rfl _ _ rfl rfl _ _ S2.out.1 (zn _) (by rw[zg,zg]) (zA _ _ _) ?_))
 refine bodyPost_ret (v:=.agg (UARR .u8 32 (zu d (3 :: (BE8 n ++ (List.range 32).map r))))) ?_ rfl ⟨rfl,zm S2.out.2 Z.out _⟩;exact results_cell_row rfl _ _ zb 23 _ (0,0) _ rfl (S2.out.1.row _) Tryz.underlying23 rfl (zn _)
end HX
def BYTE(X n:Nat):Nat->Int:=fun i=>((X / 2 ^ (8*(n - 1 - i)) % 256:Nat):Int)
def za(l:List Int):List Value:=l.map (Value.int .u8)
theorem yp(a b:List Int):za (a ++ b)=za a ++ za b:=by simp[za]
theorem zN(l:List Int)(i:Nat)(h:i<l.length):(za l)[i]?=some (.int .u8 (l.getD i 0)):=by
 simp[za,h,List.getD_eq_getElem?_getD]
theorem yf(l:List Int):∀ u∈za l,u.oneCell'=true:=fun u hu=>by
 simp[za] at hu;obtain⟨x,_,rfl⟩:=hu;rfl
theorem qk:∃ i,Tryz.prog.info? 5=some i/\i.zero=some (.int .u8 0)/\i.size=1/\i.bytes=1:=by
 obtain⟨i,hi,h⟩:=Option.map_eq_some_iff.1 zU;simp only[Prod.mk.injEq] at h;exact⟨i,hi,h.1,h.2.1,h.2.2⟩
theorem zM{ops:Array Oper}{rest:List Oper}{o:Oper}{a:Act}{Q:Exit->Act->World->Prop}(w:World)(hgd:o.guard=none)(s x:Operand)
  (ho:o.op=.call {callee:=.builtin .append,args:=#[s,x],argTypes:=#[27,27]})
  (base:Nat) (v:Value) (n:Nat) (xs:List Int) (hs:a.eval s=v) (hown:w.ownsRow base 5 1 v n (za xs))
  (b off m c:Nat) (l:List Int) (hx:a.eval x=.slice (some ⟨b,off,none⟩) m c) (hB:Bytes w (some ⟨b,off,none⟩) m l)
  (hm:0<m) (hb:n+m<=140737488355328) (hbase:base<=w.heap.size)
  (h:∀ g cap w',w'.ownsRow base 5 1 (.slice (some ⟨g,0,none⟩) (n+m) cap) (n+m) (za (xs ++ l))->w.grownBy w' v.ownBlock->g<w'.heap.size->wpList Tryz.prog ops Q rest (a.put o.dst (.slice (some ⟨g,0,none⟩) (n+m) cap)) w'):wpList Tryz.prog ops Q (o :: rest) a w:=by
 obtain⟨i,hi,hz,hs1,hby⟩:=qk;obtain⟨b',off',e,_,hc⟩:=hB.2.1 hm;simp only[Option.some.injEq,Addr.mk.injEq] at e;obtain⟨rfl,rfl,_⟩:=e;refine wpList_append_lies w hgd s x 27 ho base 5 i (.int .u8 0) 1 1 Tryz.underlying27 hi hz hs1 hby rfl (by decide) v n (za xs) hs hown ⟨b,off,none⟩ m c (za l) hx (by simp[za,hB.1]) ?_ (yf l) hm (by simp only[maxLen];omega) (by omega) hbase w.heap.size rfl ?_
 ·intro j u hj
  have hjl:j<l.length:=by
   have:=(List.getElem?_eq_some_iff.1 hj).1;simpa[za] using this
  rw[zN l j hjl] at hj;rw[zY,hc j (by rw[<-hB.1];exact hjl)];exact hj
 ·intro g cap w' h1 h2 _ h4
  rw[<-yp] at h1;exact h g cap w' h1 h2 h4
theorem Ze(w:World)(row:Option Nat):w.grownBy w row:=⟨rfl,rfl,rfl,Nat.le_refl _,fun _ _ _=>rfl⟩
theorem Xa{ops:Array Oper}{rest:List Oper}{o:Oper}{a:Act}{Q:Exit->Act->World->Prop}(w:World)(hgd:o.guard=none)(s x:Operand)
   (ho:o.op=.call {callee:=.builtin .append,args:=#[s,x],argTypes:=#[27,27]})
   (base:Nat) (v:Value) (n:Nat) (xs:List Int) (hs:a.eval s=v) (hown:w.ownsRow base 5 1 v n (za xs))
   (ao:Option Addr) (c:Nat) (hx:a.eval x=.slice ao 0 c) (hc:ao=none->c=0) (hn:n<=140737488355328) (hbase:base<=w.heap.size)
   (h:∀ a' c' w',w'.ownsRow base 5 1 (.slice a' n c') n (za xs)->w.grownBy w' v.ownBlock->wpList Tryz.prog ops Q rest (a.put o.dst (.slice a' n c')) w'):wpList Tryz.prog ops Q (o :: rest) a w:=by
 obtain⟨i,hi,hz,hs1,hby⟩:=qk
 have form:∀ (v':Value) (w':World),w'.ownsRow base 5 1 v' n (za xs)->∃ a' c',v'=.slice a' n c':=fun v' w' h=>by
   rcases h.2 with ⟨rfl,rfl⟩ | ⟨g,cap,cur,rfl,_⟩
   ·exact⟨none,0,rfl⟩
   ·exact⟨_,cap,rfl⟩
 cases ao with
 | none=>
   obtain rfl:=hc rfl;refine wpList_append_own_none hgd s x 27 ho base 5 i 1 Tryz.underlying27 hi v n (za xs) hs hown hx ?_;obtain⟨a',c',rfl⟩:=form v w hown;exact h a' c' w hown (Ze _ _)
 | some ad=>
   refine wpList_append_own w hgd s x 27 ho base 5 i (.int .u8 0) 1 1 Tryz.underlying27 hi hz hs1 hby rfl (by decide) v n (za xs) hs hown ad 0 c [] hx rfl (fun j u hj=>by simp at hj) (fun u hu=>by simp at hu) (by simp only[maxLen];omega) (by omega) hbase ?_;intro v' w' h1 h2 _;simp only[Nat.add_zero,List.append_nil] at h1;obtain⟨a',c',rfl⟩:=form v' w' h1;exact h a' c' w' h1 h2
theorem yL{w:World}{base g n cap:Nat}{l:List Int}(h:w.ownsRow base 5 1 (.slice (some ⟨g,0,none⟩) n cap) n (za l))(hg:g<w.heap.size)(hl:∀ x∈l,0<=x/\x<=255):Bytes w (some ⟨g,0,none⟩) n l:=by
 have hlen:l.length=n:=by have:=h.1;simpa[za] using this
 refine⟨hlen,fun _=>⟨g,0,rfl,hg,fun i hi=>?_⟩,hl⟩;rw[Nat.zero_add,h.cellAt i (by omega),zN l i (by omega)]
theorem YR(w:World)(base:Nat)(hb:base<=w.heap.size):(w.alloc (.cells #[] 5)).ownsRow base 5 1 (.slice (some ⟨w.heap.size,0,none⟩) 0 0) 0 (za []):=
 World.ownsRow_lit w #[] 0 hb (by simp[maxLen]) rfl
theorem jF{ops:Array Oper}{rest:List Oper}{o:Oper}{a:Act}{Q:Exit->Act->World->Prop}(w:World)(hgd:o.guard=none)(s x:Operand)
  (ho:o.op=.call {callee:=.builtin .append,args:=#[s,x],argTypes:=#[27,27]})
  (base:Nat) (v:Value) (n:Nat) (xs:List Int) (hs:a.eval s=v) (hown:w.ownsRow base 5 1 v n (za xs))
  (ao:Option Addr) (m c:Nat) (l:List Int) (hx:a.eval x=.slice ao m c) (hB:Bytes w ao m l) (hc:ao=none->c=0)
  (N:Nat) (L:List Int) (hN:n+m=N) (hL:xs ++ l=L) (hb:N<=140737488355328) (hbase:base<=w.heap.size)
  (h:∀ a' c' w',w'.ownsRow base 5 1 (.slice a' N c') N (za L)->w.grownBy w' v.ownBlock->wpList Tryz.prog ops Q rest (a.put o.dst (.slice a' N c')) w'):wpList Tryz.prog ops Q (o :: rest) a w:=by
 subst hN hL;rcases Nat.eq_zero_or_pos m with hm | hm
 ·subst hm
  have hl:l=[]:=by have:=hB.1;simpa using this
  subst hl;refine Xa w hgd s x ho base v n xs hs hown ao c hx hc (by omega) hbase ?_;simpa using h
 ·obtain⟨b,off,rfl,_,_⟩:=hB.2.1 hm
  refine zM w hgd s x ho base v n xs hs hown b off m c l hx hB hm hb hbase ?_;intro g cap w' h1 h2 _;exact h _ cap w' h1 h2
def zR(X j:Nat):List Int:=(List.range j).map fun i=>((X / 128 ^ i % 128+128:Nat):Int)
theorem JI(X j:Nat):zR X (j+1)=zR X j ++ [((X / 128 ^ j % 128+128:Nat):Int)]:=by simp[zR,List.range_succ]
theorem jX(X j:Nat):(zR X j).length=j:=by simp[zR]
def TOPG(X:Nat):Nat->Nat
 | 0=>0
 | k+1=>if X<128 then 0 else TOPG (X / 128) k+1
def NTOP(X:Nat):Nat:=TOPG X 9
def zr(X:Nat):List Int:=zR X (NTOP X) ++ [((X / 128 ^ NTOP X:Nat):Int)]
theorem yZ(X:Nat):(zr X).length=NTOP X+1:=by simp[zr,jX]
theorem us:∀ (k X:Nat),TOPG X k<=k
 | 0,_=>Nat.le_refl _
 | k + 1,X=>by
   unfold TOPG;split
   ·omega
   ·have:=us k (X / 128)
    omega
theorem vg:∀ (k X j:Nat),j<TOPG X k->128<=X / 128 ^ j
 | 0,_,_,h=>by simp[TOPG] at h
 | k + 1,X,j,h=>by
   unfold TOPG at h;split at h
   ·omega
   ·cases j with
    | zero=>simp;omega
    | succ j=>
      have:=vg k (X / 128) j (by omega);rw[Nat.div_div_eq_div_mul,Nat.mul_comm,<-Nat.pow_succ] at this;exact this
theorem ut:∀ (k X:Nat),X<128 ^ (k+1)->X / 128 ^ TOPG X k<128
 | 0,X,h=>by simpa[TOPG] using h
 | k + 1,X,h=>by
   unfold TOPG;split
   ·simpa using ‹X<128›
   ·have:=ut k (X / 128) (by rw[Nat.pow_succ] at h;exact Nat.div_lt_of_lt_mul (by omega))
    rw[Nat.div_div_eq_div_mul,Nat.mul_comm,<-Nat.pow_succ] at this;exact this
theorem xY(X:Nat):NTOP X<=9:=us 9 X
theorem uu{X:Nat}(hX:X<2 ^ 64):X / 128 ^ NTOP X<128:=ut 9 X (Nat.lt_of_lt_of_le hX (by decide))
theorem XF{X:Nat}(hX:X<2 ^ 64){j:Nat}(hj:∀ i,i<j->128<=X / 128 ^ i)(h:X / 128 ^ j<128):NTOP X=j:=by
 rcases Nat.lt_trichotomy (NTOP X) j with h1 | h1 | h1
 ·have:=hj _ h1
  have:=uu hX;omega
 ·exact h1
 ·have:=vg 9 X j h1
  omega
theorem VD(X:Nat){i j:Nat}(h:i<=j):X / 128 ^ j<=X / 128 ^ i:=Nat.div_le_div_left (Nat.pow_le_pow_right (by decide) h) (Nat.pow_pos (by decide))
theorem UX(X j:Nat):∀ x∈zR X j,0<=x/\x<=255:=fun x hx=>by
 simp only[zR,List.mem_map] at hx;obtain⟨i,_,rfl⟩:=hx;omega
theorem xO{X:Nat}(hX:X<2 ^ 64):∀ x∈zr X,0<=x/\x<=255:=fun x hx=>by
 simp only[zr,List.mem_append,List.mem_singleton] at hx;rcases hx with hx | rfl
 ·exact UX X _ x hx
 ·have:=uu hX
  generalize X / 128 ^ NTOP X=y at *
  omega
theorem qE(w:World)(v:Int)(h0:0<=v)(h1:v<=255):Bytes (w.alloc (.cells #[.int .u8 v] 5)) (some ⟨w.heap.size,0,none⟩) 1 [v]:=by
 refine⟨rfl,fun _=>⟨w.heap.size,0,rfl,by simp,fun i hi=>?_⟩,fun x hx=>by simp at hx;omega⟩;obtain rfl:i=0:=by omega
 rw[Nat.zero_add,World.cell?_alloc_at _ _ _ _ rfl];rfl
theorem MV(w:World)(base:Nat)(hb:base<=w.heap.size)(cur:Array Value)(cap:Nat)(hm:cap<=1000)(hs:cur.size=cap):(w.alloc (.cells cur 5)).ownsRow base 5 1 (.slice (some ⟨w.heap.size,0,none⟩) 0 cap) 0 (za []):=
 World.ownsRow_made w cur cap hb (by simp only[maxLen];omega) (by omega)
theorem Xd(X:Nat)(hX:X<2 ^ 64)(w:World):Calls Tryz.prog 88 #[.int .u64 (X:Int)] w fun e w'=>
  ∃ g cap,e=.returned (.slice (some ⟨g,0,none⟩) (NTOP X+1) cap)/\w'.ownsRow w.heap.size 5 1 (.slice (some ⟨g,0,none⟩) (NTOP X+1) cap) (NTOP X+1) (za (zr X))/\g<w'.heap.size/\Below w.heap.size w w':=by
 have hmk:∀ w:World,(Instr.makeSlice 27 (.int .i64 0) (.int .i64 10)).run Tryz.prog w=.ok (.slice (some ⟨w.heap.size,0,none⟩) 0 10) (w.alloc (.cells #[.int .u8 0,.int .u8 0,.int .u8 0,.int .u8 0,.int .u8 0,.int .u8 0,.int .u8 0,.int .u8 0,.int .u8 0,.int .u8 0] 5)):=fun _=>by kernel_rfl
 have HX:Aside (X<2 ^ 64):=hX;clear hX;go_enter Tryz.func88,Tryz.ntmps88;go_wp2;go_loopg [0,3] 10 (fun g s0 s3 wx=>∃ (j x:Nat),j+g=10/\Aside (x=X / 128 ^ j/\(∀ i,i<j->128<=X / 128 ^ i)/\wx.ownsRow w.heap.size 5 1 s3 j (za (zR X j))/\Below w.heap.size w wx)/\s0=.int .u64 (x:Int))
 case atStart=>exact⟨0,X,by omega,⟨by simp,fun i hi=>by omega,MV w _ (Nat.le_refl _) _ 10 (by decide) rfl,(Below.refl _ _).alloc (Nat.le_refl _) _⟩,rfl⟩
 case round=>
  obtain⟨j,x,hjg,A,rfl⟩:=hrel;by_cases hx:128<=(x:Int)
  ·go_wp2_with (at_builtin;refine zM _ rfl (.tmp 9) (.tmp 14) rfl w.heap.size u3 j (zR X j) rfl (A.out.2.2.1.alloc _) wr.heap.size 0 1 1 [(x:Int) % 128+128] rfl (qE wr _ (by omega) (by omega)) (by omega) (by omega) (by have:=A.out.2.2.2.size;simp;omega) ?_;intro g cap w1 hown hgrow hg)
   have R:(x / 128=X / 128 ^ (j+1))/\(∀ i,i<j+1->128<=X / 128 ^ i)/\w1.ownsRow w.heap.size 5 1 (.slice (some ⟨g,0,none⟩) (j+1) cap) (j+1) (za (zR X (j+1)))/\Below w.heap.size w w1:=by
    obtain⟨hxe,hall,hown0,hb⟩:=A.out;refine⟨by rw[hxe,Nat.div_div_eq_div_mul,<-Nat.pow_succ],fun i hi=>?_,?_,?_⟩
    ·by_cases e:i=j
     ·rw[e,<-hxe];omega
     ·exact hall i (by omega)
    ·rw[JI,show ((X / 128 ^ j % 128+128:Nat):Int)=(x:Int) % 128+128 by rw[<-hxe];omega]
     exact hown
    ·exact(hb.alloc hb.size _).grown hgrow (by have:=hb.size;simp;omega) (fun k e=>(hown0.lt k e).1)
   have HR:Aside ((x / 128=X / 128 ^ (j+1))/\(∀ i,i<j+1->128<=X / 128 ^ i)/\w1.ownsRow w.heap.size 5 1 (.slice (some ⟨g,0,none⟩) (j+1) cap) (j+1) (za (zR X (j+1)))/\Below w.heap.size w w1):=R
   have hj9:j<9:=by
    obtain⟨hxe,hall,_,_⟩:=A.out;rcases Nat.lt_or_ge j 9 with h | h
    ·exact h
    ·have h1:=VD X h
     have h2:X / 128 ^ 9<2:=Nat.div_lt_of_lt_mul (Nat.lt_of_lt_of_le HX.out (by decide));omega
   clear hown hgrow hg R A;go_wp2;go_roundg (gk - 1)
   case measure=>omega
   case rel=>exact⟨j+1,x / 128,by omega,HR,by first | rfl | go_num⟩
  ·go_wp2_with (at_builtin;refine zM _ rfl (.tmp 16) (.tmp 19) rfl w.heap.size u3 j (zR X j) rfl (A.out.2.2.1.alloc _) wr.heap.size 0 1 1 [(x:Int)] rfl (qE wr _ (by omega) (by omega)) (by omega) (by omega) (by have:=A.out.2.2.2.size;simp;omega) ?_;intro g cap w1 hown hgrow hg)
   obtain⟨hxe,hall,hown0,hb⟩:=A.out;have hN:NTOP X=j:=XF HX.out hall (by rw[<-hxe];omega)
   have R:w1.ownsRow w.heap.size 5 1 (.slice (some ⟨g,0,none⟩) (NTOP X+1) cap) (NTOP X+1) (za (zr X))/\g<w1.heap.size/\Below w.heap.size w w1:=by
    refine⟨?_,hg,(hb.alloc hb.size _).grown hgrow (by have:=hb.size;simp;omega) (fun k e=>(hown0.lt k e).1)⟩;unfold zr;rw[hN,<-hxe];exact hown
   have HR:Aside (w1.ownsRow w.heap.size 5 1 (.slice (some ⟨g,0,none⟩) (NTOP X+1) cap) (NTOP X+1) (za (zr X))/\g<w1.heap.size/\Below w.heap.size w w1):=R;have HN:Aside (NTOP X=j):=hN;clear hown hgrow hg R A hxe hall hown0 hb hN;go_wp2;go_ret;obtain⟨h1,h2,h3⟩:=HR.out;refine⟨g,cap,?_,h1,h2,h3⟩;rw[HN.out];rfl
abbrev Fit(a h b:Nat):Prop:=a % 2 ^ h=0/\a+2 ^ h<=b
def HTF:Nat->Nat->Nat->Nat
 | 0,_,_=>0
 | f+1,a,b=>if Fit a (f+1) b then f+1 else HTF f a b
def HT(a b:Nat):Nat:=HTF 62 a b
def Tile:Nat->List (Nat × Nat)->Nat->Prop
 | a,[],b=>a=b
 | a,s :: l,b=>Node s.1 s.2/\s.2*2 ^ s.1=a/\Tile ((s.2+1)*2 ^ s.1) l b
abbrev Sibs(x y:Nat × Nat):Prop:=x.1=y.1/\x.2 % 2=0/\y.2=x.2+1
def Irr:List (Nat × Nat)->Prop
 | []=>True
 | x :: l=>(∀ y,l.head?=some y->¬ Sibs x y)/\Irr l
theorem Tile.bound{l:List (Nat × Nat)}:∀ {a b:Nat},Tile a l b->a<=b/\(l≠[]->a<b/\b<=4611686018427387904):=by
 induction l with
 | nil=>intro a b h;exact⟨by have:a=b:=h;omega,fun h=>absurd rfl h⟩
 | cons s l ih=>
   intro a b ⟨h1,h2,h3⟩;have i:=ih h3;have:=Nat.two_pow_pos s.1;have e:(s.2+1)*2 ^ s.1=s.2*2 ^ s.1+2 ^ s.1:=by rw[Nat.add_mul,Nat.one_mul]
   refine⟨by omega,fun _=>⟨by omega,?_⟩⟩;cases l with
   | nil=>
     have h4:(s.2+1)*2 ^ s.1=b:=h3;have:=h1.span;simp at this;omega
   | cons t l=>exact(i.2 (by simp)).2
theorem Zf{n:Nat}(h:PC n=0):n=0:=by
 induction n using Nat.strongRecOn with
 | _ n ih=>
   by_cases h0:n=0
   ·exact h0
   ·rw[zT] at h
    have:=ih (n / 2) (by omega) (by omega);omega
theorem VE(n a b:Nat)(hab:a<=b):n / 2 ^ a=n / 2 ^ b*2 ^ (b - a)+n / 2 ^ a % 2 ^ (b - a)/\PC (n / 2 ^ a)=PC (n / 2 ^ b)+PC (n / 2 ^ a % 2 ^ (b - a)):=by
 have e:n / 2 ^ b=n / 2 ^ a / 2 ^ (b - a):=by rw[Nat.div_div_eq_div_mul,<-Nat.pow_add,show a+(b - a)=b by omega]
 have h1:n / 2 ^ a=n / 2 ^ b*2 ^ (b - a)+n / 2 ^ a % 2 ^ (b - a):=by
  rw[e,Nat.mul_comm];exact(Nat.div_add_mod _ _).symm
 refine⟨h1,?_⟩;have h2:=Z6 (b - a) (n / 2 ^ b) (n / 2 ^ a % 2 ^ (b - a)) (Nat.mod_lt _ (Nat.two_pow_pos _));rw[<-h1] at h2;exact h2
theorem z1s(n:Nat){a b:Nat}(hab:a<=b):PC (n / 2 ^ b)<=PC (n / 2 ^ a):=by
 have:=(VE n a b hab).2;omega
theorem VF(n:Nat){a b:Nat}(hab:a<=b)(h:PC (n / 2 ^ a)=PC (n / 2 ^ b)):n / 2 ^ a*2 ^ a=n / 2 ^ b*2 ^ b:=by
 obtain⟨h1,h2⟩:=VE n a b hab;have h3:n / 2 ^ a % 2 ^ (b - a)=0:=Zf (by omega);rw[h3,Nat.add_zero] at h1;rw[h1,Nat.mul_assoc,<-Nat.pow_add,show b - a+a=b by omega]
theorem MW{n:Nat}(hn:n<2 ^ 64):∀ h,h<=64->∀ i,i<PC (n / 2 ^ h)->∃ g,h<=g/\g<64/\(HS h n)[i]?=some g/\n / 2 ^ g % 2=1/\i=PC (n / 2 ^ (g+1)):=by
 have key:∀ d h,h+d=64->∀ i,i<PC (n / 2 ^ h)->∃ g,h<=g/\g<64/\(HS h n)[i]?=some g/\n / 2 ^ g % 2=1/\i=PC (n / 2 ^ (g+1)):=by
  intro d;induction d with
  | zero=>
    intro h e i hi;obtain rfl:h=64:=by omega
    rw[Nat.div_eq_of_lt hn,yG] at hi;omega
  | succ d ih=>
    intro h e i hi;have hl:=YM hn (h+1) (by omega);have hs:PC (n / 2 ^ h)=n / 2 ^ h % 2+PC (n / 2 ^ (h+1)):=by rw[zT,qI]
    rcases Nat.lt_or_ge i (PC (n / 2 ^ (h+1))) with h1 | h1
    ·obtain⟨g,a,b,c,r⟩:=ih (h+1) (by omega) i h1
     refine⟨g,by omega,b,?_,r⟩;by_cases hb:n / 2 ^ h % 2=1
     ·rw[qX (by omega) hb,List.getElem?_append_left (by omega)]
      exact c
     ·rw[ju (by omega) hb]
      exact c
    ·have hb:n / 2 ^ h % 2=1:=by omega
     have hi':i=PC (n / 2 ^ (h+1)):=by omega
     refine⟨h,Nat.le_refl _,by omega,?_,hb,hi'⟩;rw[qX (by omega) hb,List.getElem?_append_right (by omega),hl,hi'];simp
 intro h hh;exact key (64 - h) h (by omega)
def HGT(n i:Nat):Nat:=(HS 0 n).getD i 0
def Yi(n:Nat):Nat->Nat
 | 0=>0
 | i+1=>n / 2 ^ HGT n i*2 ^ HGT n i
theorem x8{n i:Nat}(hn:n<2 ^ 64)(hi:i<PC n):(HS 0 n)[i]?=some (HGT n i)/\n / 2 ^ HGT n i % 2=1/\i=PC (n / 2 ^ (HGT n i+1)):=by
 obtain⟨g,_,_,c,d,e⟩:=MW hn 0 (by omega) i (by rw[Nat.pow_zero,Nat.div_one];exact hi);have hg:HGT n i=g:=by unfold HGT;rw[List.getD_eq_getElem?_getD,c];rfl
 rw[hg];exact⟨c,d,e⟩
def KGT(n i:Nat):Nat:=2*(n / 2 ^ (HGT n i+1))
theorem G7{n i:Nat}(hn:n<=4611686018427387904)(hi:i<PC n):Node (HGT n i) (KGT n i):=Node.peak hn (x8 (by omega) hi).2.1
theorem Xe{n i:Nat}(hn:n<2 ^ 64)(hi:i<PC n):PC (n / 2 ^ HGT n i)=i+1:=by
 obtain⟨_,h2,h3⟩:=x8 hn hi;rw[zT,<-qI];omega
theorem vN{n i:Nat}(hn:n<2 ^ 64)(hi:i+1<PC n):HGT n (i+1)<HGT n i:=by
 have h1:=Xe hn (i:=i) (by omega);have h2:=(x8 hn hi).2.2;rcases Nat.lt_or_ge (HGT n (i+1)) (HGT n i) with h | h
 ·exact h
 ·have h3:=z1s n (a:=HGT n i+1) (b:=HGT n (i+1)+1) (by omega)
  have h4:=(x8 hn (i:=i) (by omega)).2.2;omega
theorem gE{n i:Nat}(hn:n<2 ^ 64)(hi:i<PC n):KGT n i*2 ^ HGT n i=Yi n i:=by
 have hk:KGT n i*2 ^ HGT n i=n / 2 ^ (HGT n i+1)*2 ^ (HGT n i+1):=xP _ _;have h2:=(x8 hn hi).2.2;cases i with
 | zero=>
   rw[hk,Zf h2.symm,Nat.zero_mul];rfl
 | succ i=>
   have h1:=Xe hn (i:=i) (by omega);have h3:=vN hn hi;rw[hk];exact VF n (by omega) (by omega)
theorem MX{n i:Nat}(hn:n<2 ^ 64)(hi:i<PC n):(KGT n i+1)*2 ^ HGT n i=Yi n (i+1):=by
 have:=Z9 (x8 hn hi).2.1;show (2*(n / 2 ^ (HGT n i+1))+1)*2 ^ HGT n i=n / 2 ^ HGT n i*2 ^ HGT n i;rw[<-this]
theorem G8{n:Nat}(hn:n<2 ^ 64):Yi n (PC n)=n:=by
 cases h:PC n with
 | zero=>
   rw[Zf h];rfl
 | succ i=>
   have h1:=Xe hn (i:=i) (by omega);have h2:=VF n (a:=0) (b:=HGT n i) (by omega) (by rw[Nat.pow_zero,Nat.div_one];omega);rw[Nat.pow_zero,Nat.div_one,Nat.mul_one] at h2;exact h2.symm
def PKS(n j c:Nat):List (Nat × Nat):=(List.range' j c).map fun i=>(HGT n i,KGT n i)
theorem VG(n j c:Nat):PKS n j (c+1)=(HGT n j,KGT n j) :: PKS n (j+1) c:=by simp[PKS,List.range'_succ]
theorem z2g{n c i:Nat}(h:i<c):(PKS n 0 c)[i]?=some (HGT n i,KGT n i):=by
 simp[PKS,h]
theorem MY{n:Nat}(hn:n<=4611686018427387904):∀ c j,j+c=PC n->Tile (Yi n j) (PKS n j c) n/\Irr (PKS n j c):=by
 intro c;induction c with
 | zero=>
   intro j e;obtain rfl:j=PC n:=by omega
   exact⟨G8 (by omega),trivial⟩
 | succ c ih=>
   intro j e;obtain⟨i1,i2⟩:=ih (j+1) (by omega);rw[VG];refine⟨⟨G7 hn (by omega),gE (by omega) (by omega),?_⟩,?_,i2⟩
   ·show Tile ((KGT n j+1)*2 ^ HGT n j) _ n
    rw[MX (by omega) (by omega)];exact i1
   ·intro y hy ⟨h1,_,_⟩
    cases c with
    | zero=>simp[PKS] at hy
    | succ c=>
      rw[VG] at hy;simp at hy;subst hy;have:=vN (n:=n) (i:=j) (by omega) (by omega);dsimp only at h1;omega
theorem M0(k h:Nat):(k+1)*2 ^ h=k*2 ^ h+2 ^ h:=by rw[Nat.add_mul,Nat.one_mul]
theorem Tile.within{l:List (Nat × Nat)}:∀ {a b:Nat},Tile a l b->∀ s∈l,a<=s.2*2 ^ s.1/\(s.2+1)*2 ^ s.1<=b/\Node s.1 s.2:=by
 induction l with
 | nil=>intro a b _ s hs;simp at hs
 | cons t l ih=>
   intro a b ⟨h1,h2,h3⟩ s hs;rcases List.mem_cons.1 hs with rfl | hs
   ·exact⟨by omega,h3.bound.1,h1⟩
   ·have:=ih h3 s hs
    have h4:=M0 t.2 t.1;have h5:=Nat.two_pow_pos t.1;exact⟨by omega,this.2⟩
theorem xU(n:Nat)(hn:n<64)(w:World):Calls Tryz.prog 66 #[.int .i64 (n:Int)] w fun e w'=>e=.returned (.int .u64 ((2 ^ n:Nat):Int))/\w=w':=by
 have HN:Aside (n<64):=hn;clear hn;go_enter Tryz.func66,Tryz.ntmps66;go_wp2;go_loopg [3,4] n (fun g s3 s4 wx=>∃ i v:Nat,s3=.int .u64 (v:Int)/\s4=.int .i64 (i:Int)/\Aside (v=2 ^ i/\i+g=n)/\wx=w)
 case atStart=>exact⟨0,1,rfl,rfl,⟨rfl,by omega⟩,rfl⟩
 case round=>
  obtain⟨i,v,rfl,rfl,A,hw⟩:=hrel;subst hw;cases gk with
  | zero=>
    have hi:¬ (i:Int)<(n:Int):=by have:=A.out.2;omega
    go_wp2;go_ret;obtain⟨r1,r2⟩:=A.out;refine⟨?_,rfl⟩;rw[r1,show i=n by omega];rfl
  | succ g=>
    have hi:(i:Int)<(n:Int):=by have:=A.out.2;omega
    go_wp2;go_roundg g
    case measure=>omega
    case rel=>
     obtain⟨r1,r2⟩:=A.out;have h64:=HN.out;have hp:2 ^ (i+1)<=2 ^ 63:=Nat.pow_le_pow_right (by decide) (by omega);refine⟨i+1,2 ^ (i+1),?_,?_,⟨rfl,by omega⟩,rfl⟩
     ·congr 1
      rw[zh,r1];rw[Nat.pow_succ] at hp ⊢;omega
     ·congr 1
      unfold wrap64;omega
theorem kP(n:Nat)(hn:n<=4611686018427387904)(w:World):Calls Tryz.prog 100 #[.int .u64 (n:Int)] w fun e w'=>e=.returned (.tuple #[.int .u64 ((zz n:Nat):Int),.bool true])/\w=w':=by
 have HN:Aside (n<=4611686018427387904):=hn;have hd:¬ (4611686018427387904:Int)<(n:Int):=by omega
 clear hn;go_enter Tryz.func100,Tryz.ntmps100;go_wp2;go_loopg [0,4] n (fun g s0 s4 wx=>∃ v:Nat,s0=.int .u64 (g:Int)/\s4=.int .u64 (v:Int)/\Aside (v+zz g=zz n)/\wx=w)
 case atStart=>exact⟨0,rfl,rfl,by unfold Aside;omega,rfl⟩
 case round=>
  obtain⟨v,rfl,rfl,A,hw⟩:=hrel;subst hw;cases gk with
  | zero=>
    go_wp2;go_ret2;have r1:=A.out;rw[YB] at r1;refine⟨?_,rfl⟩;rw[<-r1];rfl
  | succ g=>
    have hi:(0:Int)<(((g+1:Nat)):Int):=by omega
    have e1:Aside (IntKind.u64.wrap ((v:Int)+((g+1:Nat):Int))=((v+(g+1):Nat):Int)):=by
     have h1:=YA (g+1);have h2:=A.out;have h3:=YN HN.out;unfold Aside;rw[zh];omega
    have e2:Aside (IntKind.u64.wrap (((g+1:Nat):Int) / 2)=(((g+1) / 2:Nat):Int)):=by
     have h1:=Mm (g+1);have h2:=A.out;have h3:=YN HN.out;unfold Aside;rw[zh];omega
    generalize hG:g+1=G at *
    go_wp2;go_roundg (G / 2)
    case measure=>omega
    case rel=>
     refine⟨v+G,?_,?_,?_,rfl⟩
     ·first | rfl | (congr 1;omega) | (rw[e2.out])
     ·rw[e1.out]
     ·have h1:=YA G
      have h2:=A.out;unfold Aside;omega
theorem UY(h k:Nat)(t z y l a r:Int)(w:World)(hh:h<=62)(hm:wrap64 (h:Int)=(h:Int))(hm2:IntKind.u64.wrap (h:Int)=(h:Int))(ht:wrap64 (62 - (h:Int))=t)(hk:decide (y<=(k:Int))=false)
  (cy:∀ w,Calls Tryz.prog 66 #[.int .i64 t] w fun e w'=>e=.returned (.int .u64 y)/\w=w')(cz:∀ w,Calls Tryz.prog 66 #[.int .i64 (h:Int)] w fun e w'=>e=.returned (.int .u64 z)/\w=w')
  (e0:IntKind.u64.wrap ((k:Int)+1)=(k:Int)+1)(e1:IntKind.u64.wrap (IntKind.u64.wrap (((k:Int)+1)*z) - 1)=l)(ca:∀ w,Calls Tryz.prog 100 #[.int .u64 l] w fun e w'=>e=.returned (.tuple #[.int .u64 a,.bool true])/\w=w')(e2:IntKind.u64.wrap (a+(h:Int))=r):
  Calls Tryz.prog 63 #[SPOT h k] w fun e w'=>e=.returned (.tuple #[.int .u64 r,.bool true])/\Below w.heap.size w w':=by
 have hd:decide ((62:Int)<(h:Int))=false:=by simp;omega
 go_enter Tryz.func63,Tryz.ntmps63;go_wp2;have hc0:(w.alloc (.cells #[.int .u8 (h:Int),.int .u64 (k:Int)] 77)).cell? ⟨w.heap.size,0,none⟩=some (.int .u8 (h:Int)):=by simp
 have hc1:(w.alloc (.cells #[.int .u8 (h:Int),.int .u64 (k:Int)] 77)).cell? ⟨w.heap.size,1,none⟩=some (.int .u64 (k:Int)):=by simp
 have R2:Aside (Below w.heap.size w (w.alloc (.cells #[.int .u8 (h:Int),.int .u64 (k:Int)] 77))):=(Below.refl _ _).alloc (Nat.le_refl _) _;generalize w.alloc (.cells #[.int .u8 (h:Int),.int .u64 (k:Int)] 77)=W at *
 generalize hb:w.heap.size=b at *
 clear hh;go_quiet ((go_at_call 66;exact yg (cy _)))
 have R3:Aside (Below b w (W.drewN nq)):=below_drewN R2.out nq;have hc0':(W.drewN nq).cell? ⟨b,0,none⟩=some (.int .u8 (h:Int)):=hc0;have hc1':(W.drewN nq).cell? ⟨b,1,none⟩=some (.int .u64 (k:Int)):=hc1;clear hc0 hc1 R2 cy;generalize W.drewN nq=W2 at *
 go_wp2;go_quiet (first | (go_at_call 66;exact yg (cz _)) | (go_at_call 100;exact yg (ca _)))
 go_wp2;go_ret2;exact⟨rfl,by rw[hb];exact below_drewN R3.out _⟩
theorem kQ(h k:Nat)(hN:Node h k)(w:World):Calls Tryz.prog 63 #[SPOT h k] w fun e w'=>e=.returned (.tuple #[.int .u64 ((PLC h k:Nat):Int),.bool true])/\Below w.heap.size w w':=by
 have h1:=hN.1;have h2:=hN.2;have h3:=hN.span;have h4:=hN.index_lt;have h5:=hN.lt;have h7:=Mn h k;have h8:=z0X h k;refine UY h k ((62 - h:Nat):Int) ((2 ^ h:Nat):Int) ((2 ^ (62 - h):Nat):Int) (((k+1)*2 ^ h - 1:Nat):Int) ((zz ((k+1)*2 ^ h - 1):Nat):Int) _ w h1 (by unfold wrap64;omega) (by rw[zh];omega) (by unfold wrap64;omega) (by simp only[decide_eq_false_iff_not];omega) (fun w=>xU _ (by omega) w) (fun w=>xU _ (by omega) w) (by rw[zh];omega) ?_ (fun w=>kP _ (by omega) w) ?_
 ·rw[show (((k:Int)+1)*((2 ^ h:Nat):Int))=(((k+1)*2 ^ h:Nat):Int) by rw[Int.natCast_mul];rfl]
  generalize (k+1)*2 ^ h=x at *
  rw[zh,zh];omega
 ·rw[zh]
  omega
def zl(l:List (Nat × Nat)):List Value:=l.flatMap fun x=>[Value.int .u8 (x.1:Int),Value.int .u64 (x.2:Int)]
theorem kR(l:List (Nat × Nat))(h k:Nat):zl (l ++ [(h,k)])=zl l ++ [Value.int .u8 (h:Int),Value.int .u64 (k:Int)]:=by simp[zl]
theorem YV:∀ (l:List (Nat × Nat)) (j h k:Nat),l[j]?=some (h,k)->(zl l)[j*2]?=some (.int .u8 (h:Int))/\(zl l)[j*2+1]?=some (.int .u64 (k:Int))
 | [],j,h,k,e=>by simp at e
 | x :: l,0,h,k,e=>by
   simp at e;subst e;simp[zl]
 | x :: l,j+1,h,k,e=>by
   have:=YV l j h k (by simpa using e);have e1:(j+1)*2=j*2+1+1:=by omega
   simp only[zl,List.flatMap_cons,List.cons_append,List.nil_append,e1,List.getElem?_cons_succ];exact this
theorem vO:(Tryz.prog.info? 77).map (fun i=>(i.zero,i.size,i.bytes))=some (some (.agg #[.int .u8 0,.int .u64 0]),2,16):=by kernel_rfl
theorem M3{ops:Array Oper}{rest:List Oper}{o:Oper}{a:Act}{Q:Exit->Act->World->Prop}(w:World)(hgd:o.guard=none)(s x:Operand)
  (ho:o.op=.call {callee:=.builtin .append,args:=#[s,x],argTypes:=#[72,72]})
  (base:Nat) (v:Value) (n:Nat) (xs:List (Nat × Nat)) (hs:a.eval s=v) (hown:w.ownsRow base 77 2 v n (zl xs))
  (b c:Nat) (h k:Nat) (hx:a.eval x=.slice (some ⟨b,0,none⟩) 1 c) (hc0:w.cell? ⟨b,0,none⟩=some (.int .u8 (h:Int))) (hc1:w.cell? ⟨b,1,none⟩=some (.int .u64 (k:Int)))
  (hb:n<=1000) (hbase:base<=w.heap.size)
  (hh:∀ g cap w',w'.ownsRow base 77 2 (.slice (some ⟨g,0,none⟩) (n+1) cap) (n+1) (zl (xs ++ [(h,k)]))->w.grownBy w' v.ownBlock->g<w'.heap.size->wpList Tryz.prog ops Q rest (a.put o.dst (.slice (some ⟨g,0,none⟩) (n+1) cap)) w'):wpList Tryz.prog ops Q (o :: rest) a w:=by
 obtain⟨i,hi,hz,hs1,hby⟩:=info_parts vO;refine wpList_append_lies w hgd s x 72 ho base 77 i _ 2 16 Tryz.underlying72 hi hz hs1 hby rfl (by decide) v n (zl xs) hs hown ⟨b,0,none⟩ 1 c [.int .u8 (h:Int),.int .u64 (k:Int)] hx rfl ?_ (fun u hu=>by simp at hu;rcases hu with rfl | rfl <;> rfl) (by decide) (by simp only[maxLen];omega) (by omega) hbase w.heap.size rfl ?_
 ·intro j u hj
  match j,hj with
  | 0,hj=>
    simp only[List.getElem?_cons_zero,Option.some.injEq] at hj;subst hj;exact hc0
  | 1,hj=>
    simp only[List.getElem?_cons_succ,List.getElem?_cons_zero,Option.some.injEq] at hj;subst hj;exact hc1
  | j+2,hj=>simp at hj
 ·intro g cap w' h1 h2 _ h4
  rw[<-kR] at h1;exact hh g cap w' h1 h2 h4
def qi(w:World)(a:Option Addr)(l:List (Nat × Nat)):Prop:=0<l.length->∃ g,a=some ⟨g,0,none⟩/\g<w.heap.size/\∀ (j h k:Nat),l[j]?=some (h,k)->w.cell? ⟨g,j*2,none⟩=some (.int .u8 (h:Int))/\w.cell? ⟨g,j*2+1,none⟩=some (.int .u64 (k:Int))
theorem vP{w:World}{base n:Nat}{v:Value}{l:List (Nat × Nat)}(hl:l.length=n)(h:w.ownsRow base 77 2 v n (zl l)):∃ a cap,v=.slice a n cap/\qi w a l:=by
 rcases h.2 with ⟨rfl,h0⟩ | ⟨g,cap,cur,rfl,hb,hg,r⟩
 ·subst h0
  exact⟨none,0,rfl,fun h=>by omega⟩
 ·refine⟨_,cap,rfl,fun h0=>⟨g,rfl,?_,fun j x y he=>?_⟩⟩
  ·exact(Array.getElem?_eq_some_iff.1 hg).1
  ·have hj:j<n:=by rw[<-hl];exact(List.getElem?_eq_some_iff.1 he).1
   have h1:=YV l j x y he;exact⟨(h.cellAt (j*2) (by omega)).trans h1.1,(h.cellAt (j*2+1) (by omega)).trans h1.2⟩
theorem zG{w w':World}{base:Nat}{t:TypeId}{s:Nat}{v:Value}{n:Nat}{xs:List Value}(h:w.ownsRow base t s v n xs)(hb:Below w.heap.size w w'):w'.ownsRow base t s v n xs:=by
 refine⟨h.1,h.2.imp id ?_⟩;rintro⟨g,c,cur,a,b,r,rest⟩;exact⟨g,c,cur,a,b,(hb.block g (Array.getElem?_eq_some_iff.1 r).1).trans r,rest⟩
def TOPS(h n:Nat):List (Nat × Nat):=(HS h n).map fun g=>(g,2*(n / 2 ^ (g+1)))
theorem M4{h n:Nat}(hh:h<64)(hb:n / 2 ^ h % 2=1):TOPS h n=TOPS (h+1) n ++ [(h,2*(n / 2 ^ (h+1)))]:=by
 unfold TOPS;rw[qX hh hb,List.map_append];rfl
theorem gF{h n:Nat}(hh:h<64)(hb:¬ n / 2 ^ h % 2=1):TOPS h n=TOPS (h+1) n:=by
 unfold TOPS;rw[ju hh hb]
theorem JJ{n:Nat}(hn:n<2 ^ 64)(h:Nat)(hh:h<=64):(TOPS h n).length=PC (n / 2 ^ h):=by
 unfold TOPS;rw[List.length_map];exact YM hn h hh
theorem gG{n h at' r:Nat}(ha:at'=n / 2 ^ (h+1)*2 ^ (h+1))(hr:r=n - at'):at'<=n/\(2 ^ h<=r↔n / 2 ^ h % 2=1)/\at' / 2 ^ h=2*(n / 2 ^ (h+1))/\(n / 2 ^ h % 2=1->at'+2 ^ h=n / 2 ^ h*2 ^ h)/\(¬ n / 2 ^ h % 2=1->at'=n / 2 ^ h*2 ^ h):=by
 have hp:=Nat.two_pow_pos h;have e1:at'=2*(n / 2 ^ (h+1))*2 ^ h:=by rw[ha,xP]
 have hd:=Nat.div_add_mod n (2 ^ h);have hm:=Nat.mod_lt n hp;rw[Nat.mul_comm] at hd;have hq:at' / 2 ^ h=2*(n / 2 ^ (h+1)):=by rw[e1,Nat.mul_div_cancel _ hp]
 by_cases hb:n / 2 ^ h % 2=1
 ·have h2:=Z9 hb
  have e2:n / 2 ^ h*2 ^ h=at'+2 ^ h:=by rw[h2,Nat.add_mul,Nat.one_mul,<-e1]
  exact⟨by omega,⟨fun _=>hb,fun _=>by omega⟩,hq,fun _=>e2.symm,fun h=>absurd hb h⟩
 ·have h2:=Vr hb
  have e2:n / 2 ^ h*2 ^ h=at':=by rw[h2,<-e1]
  exact⟨by omega,⟨fun _=>by omega,fun h=>absurd h hb⟩,hq,fun h=>absurd h hb,fun _=>e2.symm⟩
theorem XG(n:Nat)(hn:n<=4611686018427387904)(w:World):Calls Tryz.prog 36 #[.int .u64 (n:Int)] w fun e w'=>
  ∃ v,e=.returned v/\w'.ownsRow w.heap.size 77 2 v (PC n) (zl (TOPS 0 n))/\Below w.heap.size w w':=by
 have HN:Aside (n<=4611686018427387904):=hn;have hd:¬ (4611686018427387904:Int)<(n:Int):=by omega
 clear hn;go_enter Tryz.func36,Tryz.ntmps36;go_wp2;go_loopg [3,4,5] 63 (fun q s3 s4 s5 wx=>∃ a:Nat,s4=.int .u64 (a:Int)/\s5=.int .i64 ((q:Int) - 1)/\Aside (q<=63/\a=n / 2 ^ q*2 ^ q/\wx.ownsRow w.heap.size 77 2 s3 (PC (n / 2 ^ q)) (zl (TOPS q n))/\Below w.heap.size w wx))
 case atStart=>
  have hz:n / 2 ^ 63=0:=Nat.div_eq_of_lt (by have:=HN.out;omega);refine⟨0,rfl,rfl,by omega,by rw[hz,Nat.zero_mul],?_,Below.refl _ _⟩;rw[hz,yG]
  have ht:TOPS 63 n=[]:=by
    unfold TOPS;rw[XW (by have:=HN.out;omega)];rfl
  rw[ht];exact⟨rfl,.inl ⟨rfl,rfl⟩⟩
 case round=>
  obtain⟨a,rfl,rfl,A⟩:=hrel;cases gk with
  | zero=>
    have hlt:¬ (0:Int)<=((0:Nat):Int) - 1:=by omega
    go_wp2;go_ret;obtain⟨_,_,hown,hbel⟩:=A.out;rw[Nat.pow_zero,Nat.div_one] at hown;exact⟨_,rfl,hown,hbel⟩
  | succ h=>
    obtain⟨h63,ha,hown,hbel⟩:=A.out;have hnn:=HN.out;obtain⟨r,hr⟩:∃ r,r=n - a:=⟨_,rfl⟩
    obtain⟨p1,p2,p3,p4,p5⟩:=gG ha hr;have c:=xU h (by omega);have hpw:2 ^ h<=2 ^ 62:=Nat.pow_le_pow_right (by decide) (by omega);have hp0:=Nat.two_pow_pos h;have e0:((h+1:Nat):Int) - 1=(h:Int):=by omega
    have e0':¬ (h:Int)<0:=by omega
    have e1:IntKind.u64.wrap ((n:Int) - (a:Int))=(r:Int):=by rw[zh];omega
    have e3:(h:Int) % 256=(h:Int):=by omega
    have e4:wrap64 ((h:Int) - 1)=(h:Int) - 1:=by unfold wrap64;omega
    rw[e0];by_cases hb:n / 2 ^ h % 2=1
    ·have hge:2 ^ h<=r:=p2.2 hb
     have pq:=p4 hb;have e5:(a:Int) / ((2 ^ h:Nat):Int)=((2*(n / 2 ^ (h+1)):Nat):Int):=by rw[<-p3,Int.natCast_ediv]
     have hT:=M4 (n:=n) (h:=h) (by omega) hb;have hPC:PC (n / 2 ^ h)=PC (n / 2 ^ (h+1))+1:=by rw[zT,<-qI];omega
     have hlen:PC (n / 2 ^ (h+1))<=1000:=by have:=yC 64 (n / 2 ^ (h+1)) (Nat.lt_of_le_of_lt (Nat.div_le_self _ _) (by omega));omega
     have hk64:2*(n / 2 ^ (h+1))<2 ^ 64:=by rw[<-p3];exact Nat.lt_of_le_of_lt (Nat.div_le_self _ _) (by omega)
     generalize 2*(n / 2 ^ (h+1))=k at *
     have e7:IntKind.u64.wrap (k:Int)=(k:Int):=by rw[zh];omega
     have e6:IntKind.u64.wrap ((a:Int)+((2 ^ h:Nat):Int))=((n / 2 ^ h*2 ^ h:Nat):Int):=by rw[zh,<-pq];omega
     have hge':((2 ^ h:Nat):Int)<=(r:Int):=by omega
     have hz0:¬ ((2 ^ h:Nat):Int)=0:=by omega
     generalize hm:PC (n / 2 ^ (h+1))=m at *
     generalize hl:TOPS (h+1) n=l at *
     generalize ((2 ^ h:Nat):Int)=z at *
     generalize hx:n / 2 ^ h*2 ^ h=x at *
     have R:Aside (h<=62/\x=n / 2 ^ h*2 ^ h/\wr.ownsRow w.heap.size 77 2 u3 m (zl l)/\Below w.heap.size w wr/\m<=1000/\PC (n / 2 ^ h)=m+1/\TOPS h n=l ++ [(h,k)]):=⟨by omega,hx.symm,hown,hbel,hlen,hPC,hT⟩
     clear A HN h63 ha hown hbel hnn hr p1 p2 p3 p4 p5 hpw hp0 hb hge pq hT hPC hlen hk64 hm hl hx;go_wp2_with fail
     refine(c _).mono ?_;rintro e w' ⟨rfl,rfl⟩;go_wp2_with fail
     refine(c _).mono ?_;rintro e w' ⟨rfl,rfl⟩;go_wp2_with (at_builtin;refine M3 _ rfl (.tmp 19) (.tmp 27) rfl w.heap.size u3 m l rfl (R.out.2.2.1.alloc _) wr.heap.size 1 h k rfl (by rw[World.cell?_alloc_at _ _ _ _ rfl];rfl) (by rw[World.cell?_alloc_at _ _ _ _ rfl];rfl) R.out.2.2.2.2.1 (by have:=R.out.2.2.2.1.size;simp;omega) ?_;intro g' cap w1 hown hgrow hg)
     obtain⟨r1,r2,r3,r4,r5,r6,r7⟩:=R.out;have R2:Aside (h<=63/\x=n / 2 ^ h*2 ^ h/\w1.ownsRow w.heap.size 77 2 (.slice (some ⟨g',0,none⟩) (m+1) cap) (PC (n / 2 ^ h)) (zl (TOPS h n))/\Below w.heap.size w w1):=⟨by omega,r2,by rw[r6,r7];exact hown,(r4.alloc r4.size _).grown hgrow (by have:=r4.size;simp;omega) (fun k e=>(r3.lt k e).1)⟩
     clear hown hgrow hg R r1 r2 r3 r4 r5 r6 r7;refine(c _).mono ?_;rintro e w' ⟨rfl,rfl⟩;clear c;go_wp2;go_roundg h
     case measure=>omega
     case rel=>exact⟨x,by first | rfl | (rw[e6]),by first | rfl | (rw[e4]),R2.out⟩
    ·have hge:¬ 2 ^ h<=r:=fun h=>hb (p2.1 h)
     have pq:=p5 hb;have hge':¬ ((2 ^ h:Nat):Int)<=(r:Int):=by omega
     have hT:=gF (n:=n) (h:=h) (by omega) hb;have hPC:PC (n / 2 ^ h)=PC (n / 2 ^ (h+1)):=by rw[zT,<-qI];omega
     generalize ((2 ^ h:Nat):Int)=z at *
     have R:Aside (h<=63/\a=n / 2 ^ h*2 ^ h/\wr.ownsRow w.heap.size 77 2 u3 (PC (n / 2 ^ h)) (zl (TOPS h n))/\Below w.heap.size w wr):=⟨by omega,pq,by rw[hT,hPC];exact hown,hbel⟩
     clear A HN h63 ha hown hbel hnn hr p1 p2 p3 p4 p5 hpw hp0 hb hge pq hT hPC;go_wp2_with fail
     refine(c _).mono ?_;rintro e w' ⟨rfl,rfl⟩;clear c;go_wp2;go_roundg h
     case measure=>omega
     case rel=>exact⟨a,rfl,by first | rfl | (rw[e4]),R.out⟩
theorem gH(n:Nat)(hn:n<=4611686018427387904)(w:World):Calls Tryz.prog 36 #[.int .u64 (n:Int)] w fun e w'=>
  ∃ a cap,e=.returned (.slice a (PC n) cap)/\qi w' a (TOPS 0 n)/\Below w.heap.size w w':=by
 refine(XG n hn w).mono ?_;rintro e w' ⟨v,rfl,hown,hb⟩;have hl:=JJ (n:=n) (by omega) 0 (by omega);rw[Nat.pow_zero,Nat.div_one] at hl;obtain⟨a,cap,rfl,hs⟩:=vP hl hown;exact⟨a,cap,rfl,hs,hb⟩
end Go.Proofs.YtobaogpomcocpaaGreatDoor
