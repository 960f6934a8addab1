/- FindProves: part 25. -/
import Derived.Deep.RegionHeldLaw
import Derived.Test.YtlbcnaenhghieaaGreatDoorFindProvesP20
import Derived.Test.YtlbcnaenhghieaaGreatDoorFindProvesP24
set_option maxHeartbeats 1000000
namespace Go.Proofs.YtlbcnaenhghieaaGreatDoor.HX
open Go.RowKit
set_option maxRecDepth 100000
theorem z1b {w:World} {base base':Nat} {t:TypeId} {s:Nat} {v:Value} {n:Nat} {xs:List Value} (h:w.ownsRow base t s v n xs) (hb:base'<=base):w.ownsRow base' t s v n xs:=
 ⟨h.1,h.2.imp id fun ⟨g,c,cur,a,b,r⟩=>⟨g,c,cur,a,Nat.le_trans hb b,r⟩⟩
theorem z5f (b:Nat) (w:World):(Instr.sliceAt 25 (.pointer (some ⟨b,0,none⟩)) none none none).run Tryz.prog w=.ok (.slice (some ⟨b,0,none⟩) 32 32) w:=by
 have hn:Tryz.prog.arrayLen 25=32:=by kernel_rfl
 rw [run_sliceAt_array_all w 25 ⟨b,0,none⟩ (by kernel_rfl),hn];have he:Tryz.prog.elem 25=5:=by kernel_rfl
 obtain ⟨i8,hi,h8⟩:=Option.map_eq_some_iff.1 z0Q;simp only [Prod.mk.injEq] at h8;rw [he];simp [sizeOf,typeInfo,hi,h8.2.1,slicedAt,Addr.add]
theorem Has.text {w:World} {g:Nat} {f:Nat->Nat} {t:TypeId} (h:Has w g (UARR .u8 32 f) t) (hf:∀ i,f i<256):Text w (some ⟨g,0,none⟩) 32 ((List.range 32).map f):=
 ⟨by simp,fun _=>⟨g,0,rfl,h.lt,fun i hi=>by rw [Nat.zero_add,h.cell,z0f _ _ _ _ hi,List.getD_eq_getElem?_getD,List.getElem?_map,List.getElem?_range hi];rfl⟩,fun x hx=>by obtain ⟨i,_,rfl⟩:=List.mem_map.1 hx;exact hf i⟩
theorem zdA {w:World} {l r:Nat->Nat} {g h:Nat} {t u:TypeId} (hl:∀ i,l i<256) (hr:∀ i,r i<256) (h1:Has w g (UARR .u8 32 l) t) (h2:Has w h (UARR .u8 32 r) u):Parts (w.alloc (.cells #[.slice (some ⟨g,0,none⟩) 32 32,.slice (some ⟨h,0,none⟩) 32 32] 108)) (some ⟨w.heap.size,0,none⟩) 2 [⟨some ⟨g,0,none⟩,32,32,(List.range 32).map l⟩,⟨some ⟨h,0,none⟩,32,32,(List.range 32).map r⟩]:=
 ⟨rfl,fun _=>⟨w.heap.size,0,rfl,by simp,fun i p hp=>by
  have hi:i<2:=(List.getElem?_eq_some_iff.1 hp).1;rw [World.cell?_alloc_at _ _ _ _ rfl];have h2:i=0\/i=1:=by omega
  rcases h2 with rfl | rfl <;> (simp at hp;subst hp;rfl)⟩,fun p hp=>by
  simp only [List.mem_cons,List.not_mem_nil,or_false] at hp;rcases hp with rfl | rfl
  ·exact ⟨(h1.alloc _).text hl,Nat.le_refl _,fun x e=>by simp only [Option.some.injEq] at e;rw [<-e];exact (h1.alloc _).lt⟩
  ·exact ⟨(h2.alloc _).text hr,Nat.le_refl _,fun x e=>by simp only [Option.some.injEq] at e;rw [<-e];exact (h2.alloc _).lt⟩⟩
theorem z8I (l r:Nat->Nat) (g h:Nat):JOIN [⟨some ⟨g,0,none⟩,32,32,(List.range 32).map l⟩,⟨some ⟨h,0,none⟩,32,32,(List.range 32).map r⟩]=(List.range 32).map l ++ (List.range 32).map r:=by simp [JOIN]
theorem z9T (l r:Nat->Nat) (hl:∀ i,l i<256) (hr:∀ i,r i<256) (w:World):Calls Tryz.prog 49 #[.agg (UARR .u8 32 l),.agg (UARR .u8 32 r)] w fun e w'=>
  ∃ a' c',e=.returned (.slice a' 65 c')/\w'.ownsRow w.heap.size 5 1 (.slice a' 65 c') 65 (z00 (INTS (1 :: ((List.range 32).map l ++ (List.range 32).map r))))/\Below w.heap.size w w':=by
 have hs32:=z5f;have H:Aside ((∀ i,l i<256)/\(∀ i,r i<256)):=⟨hl,hr⟩
 clear hl hr;go_enter Tryz.func49,Tryz.ntmps49;go_wp2_with fail
 have U:Aside (Below w.heap.size w ((w.alloc (.cells (UARR .u8 32 l) 25)).alloc (.cells (UARR .u8 32 r) 25))/\Has ((w.alloc (.cells (UARR .u8 32 l) 25)).alloc (.cells (UARR .u8 32 r) 25)) w.heap.size (UARR .u8 32 l) 25/\Has ((w.alloc (.cells (UARR .u8 32 l) 25)).alloc (.cells (UARR .u8 32 r) 25)) (w.heap.size+1) (UARR .u8 32 r) 25):=⟨((Below.refl _ _).alloc (Nat.le_refl _) _).alloc (by simp) _,(Has.new w _ _).alloc _,Has.at _ _ _ (by simp)⟩
 generalize (w.alloc (.cells (UARR .u8 32 l) 25)).alloc (.cells (UARR .u8 32 r) 25)=w1 at *
 generalize hh:w.heap.size+1=h at *
 obtain ⟨X,hX⟩:∃ X,X=(w1.alloc (.cells #[.slice (some ⟨w.heap.size,0,none⟩) 32 32,.slice (some ⟨h,0,none⟩) 32 32] 108)).drew:=⟨_,rfl⟩
 have hXs:X.heap.size=w1.heap.size+1:=by rw [hX];simp [World.drew]
 have ct:Calls Tryz.prog 71 #[.int .u8 1,.slice (some ⟨w1.heap.size,0,none⟩) 2 2] X fun e w'=>∃ a' c',e=.returned (.slice a' 65 c')/\w'.ownsRow X.heap.size 5 1 (.slice a' 65 c') 65 (z00 (INTS (1 :: ((List.range 32).map l ++ (List.range 32).map r))))/\Below X.heap.size X w':=by
  have hh1:Has w1.drew w.heap.size (UARR .u8 32 l) 25:=U.out.2.1;have hh2:Has w1.drew h (UARR .u8 32 r) 25:=U.out.2.2;have k:=zgD 1 (by decide) _ 2 2 _ _ (zdA H.out.1 H.out.2 hh1 hh2) (fun p hp=>by simp only [List.mem_cons,List.not_mem_nil,or_false] at hp;rcases hp with rfl | rfl <;> (intro e;cases e)) (by rw [z8I];simp) (by decide);have e65:((List.range 32).map l ++ (List.range 32).map r).length+1=65:=by simp
  rw [z8I,e65] at k;rw [hX];exact k
 have HX:Aside (Below w.heap.size w X/\w.heap.size<=X.heap.size):=⟨by rw [hX];exact (U.out.1.alloc U.out.1.size _).drew,by rw [hXs];have:=U.out.1.size;omega⟩
 rw [hX] at ct;go_region_held3 (fun _=>True) (trivial) (first | (go_at_call 71;refine ct.mono ?_;rintro e w5 ⟨a5,c5,rfl,hown5,hb5⟩))
 rw [<-hX] at hown5 hb5;have S:Aside (w5.ownsRow w.heap.size 5 1 (.slice a5 65 c5) 65 (z00 (INTS (1 :: ((List.range 32).map l ++ (List.range 32).map r))))/\Below w.heap.size w w5):=⟨z1b hown5 HX.out.2,HX.out.1.trans (hb5.mono HX.out.2)⟩
 clear hown5 hb5 ct;go_wp2;go_ret;exact ⟨a5,c5,rfl,S.out.1,S.out.2⟩
theorem Has.whole {w:World} {g:Nat} {F:Nat->Nat} {k:IntKind} {n:Nat} {t:TypeId} (h:Has w g (UARR k n F) t):w.rangeAt g 0 (z05 k n F):=fun j v hv=>by
 have hj:j<n:=by have:=(List.getElem?_eq_some_iff.1 hv).1;rw [z0a] at this;exact this
 rw [z0Z _ _ _ _ hj] at hv;rw [Nat.zero_add,h.cell,z0f _ _ _ _ hj,hv]
theorem z5g {B:Nat} {w w':World} {g o:Nat} {cs:List Value} (h:w.rangeAt g o cs) (hb:Below B w w') (hg:g<B):w'.rangeAt g o cs:=fun j v hv=>(hb.cell (by exact hg)).trans (h j v hv)
theorem zaQ {ops:Array Oper} {o:Oper} {a:Act} {K:Act->World->Prop} {Q:Exit->Act->World->Prop} {E:Prop} (w:World) (hgd:o.guard=none) (s x:Operand)
  (ho:o.op=.call {callee:=.builtin .append,args:=#[s,x],argTypes:=#[108,108]})
  (base:Nat) (v:Value) (n:Nat) (xs:List Int) (hs:a.eval s=v) (hown:w.ownsRow base 5 1 v n (z00 xs))
  (b off m c:Nat) (l:List Int) (hx:a.eval x=.slice (some ⟨b,off,none⟩) m c) (hB:Bytes w (some ⟨b,off,none⟩) m l)
  (hm:0<m) (hb:n+m<=140737488355328) (hbase:base<=w.heap.size) (N:Nat) (hN:n+m=N)
  (h:∀ g cap w',w'.ownsRow base 5 1 (.slice (some ⟨g,0,none⟩) N cap) N (z00 (xs ++ l))->w.grownBy w' v.ownBlock->(v.ownBlock=some g\/g=w.heap.size)->g<w'.heap.size->K (a.put o.dst (.slice (some ⟨g,0,none⟩) N cap)) w'):if Region.wanted o (yielded ops a.tmps)=true then Oper.wp Tryz.prog o a w K Q else E:=by
 subst hN;obtain ⟨i,hi,hz,hs1,hby⟩:=z1f;obtain ⟨b',off',e,_,hc⟩:=hB.2.1 hm;simp only [Option.some.injEq,Addr.mk.injEq] at e;obtain ⟨rfl,rfl,_⟩:=e;refine step_append_lies w hgd s x 108 ho base 5 i (.int .u8 0) 1 1 Tryz.underlying108 hi hz hs1 hby rfl (by decide) v n (z00 xs) hs hown ⟨b,off,none⟩ m c (z00 l) hx (by simp [z00,hB.1]) ?_ (z0Y l) hm (by simp only [maxLen];omega) (by omega) hbase w.heap.size rfl ?_
 ·intro j u hj
  have hjl:j<l.length:=by
   have:=(List.getElem?_eq_some_iff.1 hj).1;simpa [z00] using this
  rw [z0K l j hjl] at hj;rw [z0y,hc j (by rw [<-hB.1];exact hjl)];exact hj
 ·intro g cap w' h1 h2 h3 h4
  rw [<-z0v] at h1;exact h g cap w' h1 h2 h3 h4
theorem zdB {w:World} {base n c:Nat} {a:Option Addr} {l:List Nat} (h:w.ownsRow base 5 1 (.slice a n c) n (z00 (INTS l))) (hl:Small8 l):Text w a n l:=Text.of_bytes (z1w h (z1T hl)).1
theorem zfh {w:World} {base n c s:Nat} {a:Option Addr} {t:TypeId} {xs:List Value} (h:w.ownsRow base t s (.slice a n c) n xs):a=none->c=0:=fun ha=>by
 rcases h.2 with ⟨hv,_⟩ | ⟨g,cap,cur,hv,_⟩
 ·simp at hv
  exact hv.2.2
 ·subst ha
  simp at hv
theorem zbW {w:World} {a:Option Addr} {n c:Nat} {l:List Nat} (hA:Text w a n l) (hnc:n<=c) (hx:∀ x,a=some x->x.block<w.heap.size):Parts (w.alloc (.cells #[.slice a n c] 108)) (some ⟨w.heap.size,0,none⟩) 1 [⟨a,n,c,l⟩]:=
 ⟨rfl,fun _=>⟨w.heap.size,0,rfl,by simp,fun i p hp=>by
  have hi:i<1:=(List.getElem?_eq_some_iff.1 hp).1;obtain rfl:i=0:=by omega
  simp only [List.getElem?_cons_zero,Option.some.injEq] at hp;subst hp;rw [World.cell?_alloc_at _ _ _ _ rfl];rfl⟩,fun p hp=>by
  simp only [List.mem_singleton] at hp;subst hp;exact ⟨hA.below ((Below.refl _ _).alloc (Nat.le_refl _) _),hnc,fun x e=>by have:=hx x e;simp;omega⟩⟩
theorem z4I {w:World} {B n c:Nat} {a:Option Addr} {l:List Nat} (h:w.ownsRow B 5 1 (.slice a n c) n (z00 (INTS l))) (hs:Small8 l):Parts (w.alloc (.cells #[.slice a n c] 108)) (some ⟨w.heap.size,0,none⟩) 1 [⟨a,n,c,l⟩]/\(a=none->c=0):=by
 refine ⟨zbW (zdB h hs) ?_ (fun x e=>?_),zfh h⟩
 ·exact (z1w h (z1T hs)).2
 ·subst e
  rcases h.2 with ⟨e,_⟩ | ⟨g,c2,cur,e,_,hg,_⟩
  ·simp at e
  ·simp only [Value.slice.injEq,Option.some.injEq] at e
   rw [e.1];exact (Array.getElem?_eq_some_iff.1 hg).1
theorem z43 (a:Option Addr) (n c:Nat) (l:List Nat):JOIN [⟨a,n,c,l⟩]=l:=by simp [JOIN]
theorem z5h {x:Nat} {l:List Nat} (hx:x<256) (h:Small8 l):Small8 (x :: l):=fun y hy=>by
 rcases List.mem_cons.1 hy with rfl | hy
 ·exact hx
 ·exact h y hy
theorem z6e {l k:List Nat} (h1:Small8 l) (h2:Small8 k):Small8 (l ++ k):=fun y hy=>by
 rcases List.mem_append.1 hy with hy | hy
 ·exact h1 y hy
 ·exact h2 y hy
theorem z2J {f:Nat->Nat} (h:∀ i,f i<256):Small8 ((List.range 32).map f):=fun y hy=>by
 obtain ⟨i,_,rfl⟩:=List.mem_map.1 hy;exact h i
theorem zfi {w:World} (d:Int) {B n c:Nat} {a:Option Addr} {l:List Nat} (h:w.ownsRow B 5 1 (.slice a n c) n (z00 (INTS l))) (hs:Small8 l) (hl:l.length<5000) (hT:Tabled w):
  Calls Tryz.prog 48 #[.int .i64 d,.slice (some ⟨w.heap.size,0,none⟩) 1 1] (w.alloc (.cells #[.slice a n c] 108)) fun e w'=>e=.returned (.agg (UARR .u8 32 (z0F d l)))/\Below (w.alloc (.cells #[.slice a n c] 108)).heap.size (w.alloc (.cells #[.slice a n c] 108)) w':=by
 have:=zhw d _ 1 1 _ _ (z4I h hs).1 (hT.below ((Below.refl _ _).alloc (Nat.le_refl _) _)) (by rw [z43];omega) (by decide);rw [z43] at this;exact this
theorem zgE (d:Int) (l r:Nat->Nat) (hl:∀ i,l i<256) (hr:∀ i,r i<256) (w:World) (hT:Tabled w):Calls Tryz.prog 23 #[.int .i64 d,.agg (UARR .u8 32 l),.agg (UARR .u8 32 r)] w fun e w'=>e=.returned (.agg (UARR .u8 32 (z0F d (1 :: ((List.range 32).map l ++ (List.range 32).map r)))))/\Below w.heap.size w w':=by
 have hz:=z1o;have ct:=fun W=>z9T l r hl hr W;have H:Aside ((∀ i,l i<256)/\(∀ i,r i<256)/\Tabled w):=⟨hl,hr,hT⟩
 obtain ⟨W,zb,lb,rb,hW,hzb,hlb,hrb,R,h4,h5⟩:∃ W zb lb rb,W=((w.alloc (.cells (UARR .u8 32 l) 25)).alloc (.cells (UARR .u8 32 r) 25)).alloc (.cells (UARR .u8 32 fun _=>0) 25)/\zb=w.heap.size+1+1/\lb=w.heap.size/\rb=w.heap.size+1/\Aside (Has W zb (UARR .u8 32 fun _=>0) 25/\Below w.heap.size w W/\w.heap.size<=zb)/\W.rangeAt lb 0 (z05 .u8 32 l)/\W.rangeAt rb 0 (z05 .u8 32 r):=by
  refine ⟨_,_,_,_,rfl,rfl,rfl,rfl,⟨Has.at _ _ _ (by simp),(((Below.refl _ _).alloc (Nat.le_refl _) _).alloc (by simp) _).alloc (by simp;omega) _,by omega⟩,(((Has.new w _ _).alloc _).alloc _).whole,((Has.at _ _ _ (by simp)).alloc _).whole⟩
 clear hl hr hT;go_enter Tryz.func23,Tryz.ntmps23
 go_wp2_with (first
  | (rw [<-hW];refine wpList_load_mid rfl 25 (.tmp 4) rfl w.heap.size 0 rfl (z05 .u8 32 l) (.array 32 5) (by rw [<-hlb];exact h4) Tryz.underlying25 rfl (by rw [z0a];exact z0M) ?_;rw [<-z0N])
  | (refine wpList_load_mid rfl 25 (.tmp 5) rfl (w.heap.size+1) 0 rfl (z05 .u8 32 r) (.array 32 5) (by rw [<-hrb];exact h5) Tryz.underlying25 rfl (by rw [z0a];exact z0M) ?_;rw [<-z0N]))
 rw [<-hzb];refine (ct _).mono ?_;rintro e w2 ⟨a',c',rfl,hown,hb⟩;rw [<-hW] at hown hb;clear ct h4 h5 hW hzb hlb hrb;have S:Aside (Has w2 zb (UARR .u8 32 fun _=>0) 25/\Below w.heap.size w w2):=⟨R.out.1.keep hb,R.out.2.1.trans (hb.mono R.out.2.1.size)⟩
 have cs:=zfi d hown (z5h (by decide) (z6e (z2J H.out.1) (z2J H.out.2.1))) (by simp) (H.out.2.2.below S.out.2);have Z:Aside (w.heap.size<=zb):=R.out.2.2;clear hown hb R;go_wp2_with fail
 refine cs.mono ?_;rintro e w3 ⟨rfl,hb3⟩;have hb4:Below w2.heap.size w2 w3:=((Below.refl _ _).alloc (Nat.le_refl _) _).trans (hb3.mono (by simp));have S2:Aside (Has w3 zb (UARR .u8 32 fun _=>0) 25/\Below w.heap.size w w3):=⟨S.out.1.keep hb4,S.out.2.trans (hb4.mono S.out.2.size)⟩
 clear cs hb3 hb4 S
 go_wp2_with (first
  | (refine wpList_store_row rfl 25 _ _ rfl _ _ rfl rfl _ _ S2.out.1 (z04 _) (by rw [z03,z03]) (z0j _ _ _) ?_))
 refine bodyPost_ret (v:=.agg (UARR .u8 32 (z0F d (1 :: ((List.range 32).map l ++ (List.range 32).map r))))) ?_ rfl ⟨rfl,z0d S2.out.2 Z.out _⟩;exact results_cell_row rfl _ _ zb 25 _ (0,0) _ rfl (S2.out.1.row _) Tryz.underlying25 rfl (z04 _)
def z7N (d:Int) (l r:Nat->Nat):Nat->Nat:=HX.z0F d (1 :: ((List.range 32).map l ++ (List.range 32).map r))
theorem zfj (d:Int) (l r:Nat->Nat) (i:Nat):z7N d l r i<256:=HX.z32 d _ _ i
def VAL (d:Int) (f:Nat->Nat->Nat):Nat->Nat->Nat->Nat
 | 0,k=>f k
 | h+1,k=>z7N d (VAL d f h (2*k)) (VAL d f h (2*k+1))
theorem z4J {d:Int} {f:Nat->Nat->Nat} {n:Nat} (hf:∀ k,k<n->∀ i,f k i<256):∀ (h k:Nat),(k+1)*2 ^ h<=n->∀ i,VAL d f h k i<256
 | 0,k,hk,i=>hf k (by simp at hk;omega) i
 | h+1,k,_,i=>zfj _ _ _ i
theorem z22 {d:Int} {f g:Nat->Nat->Nat} {n:Nat} (hfg:∀ k,k<n->f k=g k):∀ (h k:Nat),(k+1)*2 ^ h<=n->VAL d f h k=VAL d g h k
 | 0,k,hk=>hfg k (by simp at hk;omega)
 | h+1,k,hk=>by
   have e:(k+1)*2 ^ (h+1)=(2*k+1+1)*2 ^ h:=by rw [Nat.pow_succ,show 2*k+1+1=(k+1)*2 by omega,Nat.mul_assoc,Nat.mul_comm (2 ^ h) 2]
   have h2:(2*k+1+1)*2 ^ h<=n:=by omega
   have h1:(2*k+1)*2 ^ h<=n:=Nat.le_trans (Nat.mul_le_mul_right _ (by omega)) h2;rw [VAL,VAL,z22 hfg h (2*k) h1,z22 hfg h (2*k+1) h2]
def z0C (f:Nat->Nat->Nat) (n:Nat) (x:Nat->Nat):Nat->Nat->Nat:=fun k=>if k=n then x else f k
theorem z8J (f:Nat->Nat->Nat) (n:Nat) (x:Nat->Nat):z0C f n x n=x:=by simp [z0C]
theorem zdC (f:Nat->Nat->Nat) (n:Nat) (x:Nat->Nat) {k:Nat} (h:k<n):z0C f n x k=f k:=by
 unfold z0C;rw [if_neg (by omega)]
def ONES (n j:Nat):Prop:=∀ i,i<j->n / 2 ^ i % 2=1
theorem ONES.next {n j:Nat} (h:ONES n j) (hj:n / 2 ^ j % 2=1):ONES n (j+1):=fun i hi=>by
 by_cases e:i=j
 ·subst e;exact hj
 ·exact h i (by omega)
theorem z0r (n j:Nat):n / 2 ^ (j+1)=n / 2 ^ j / 2:=by rw [Nat.pow_succ,Nat.div_div_eq_div_mul]
theorem ONES.place {n:Nat}:∀ {j:Nat},ONES n j->PLC j (n / 2 ^ j)=z02 n+j
 | 0,_=>by rw [Nat.pow_zero,Nat.div_one,z5q];rfl
 | j+1,h=>by
   have h1:=h j (by omega);have ih:=ONES.place (n:=n) (j:=j) fun i hi=>h i (by omega);have e:n / 2 ^ j=2*(n / 2 ^ (j+1))+1:=by rw [z0r];omega
   rw [z2W,<-e,ih];omega
theorem ONES.span {n:Nat}:∀ {j:Nat},ONES n j->(n / 2 ^ j+1)*2 ^ j=n+1
 | 0,_=>by simp
 | j+1,h=>by
   have h1:=h j (by omega);have ih:=ONES.span (n:=n) (j:=j) fun i hi=>h i (by omega);have e:n / 2 ^ j=2*(n / 2 ^ (j+1))+1:=by rw [z0r];omega
   rw [<-ih,e];generalize n / 2 ^ (j+1)=q;rw [Nat.pow_succ,show 2*q+1+1=(q+1)*2 by omega,Nat.mul_assoc,Nat.mul_comm (2 ^ j) 2]
theorem ONES.of_span {n h k:Nat} (e:(k+1)*2 ^ h=n+1):k=n / 2 ^ h/\ONES n h:=by
 have hp:0<2 ^ h:=Nat.two_pow_pos h
 have ek:n=k*2 ^ h+(2 ^ h - 1):=by
  have:(k+1)*2 ^ h=k*2 ^ h+2 ^ h:=by rw [Nat.add_mul,Nat.one_mul]
  omega
 refine ⟨?_,fun i hi=>?_⟩
 ·rw [ek,Nat.mul_comm k,Nat.mul_add_div hp,Nat.div_eq_of_lt (by omega),Nat.add_zero]
 ·obtain ⟨m,rfl⟩:∃ m,h=i+1+m:=⟨h - (i+1),by omega⟩
  have hpi:0<2 ^ i:=Nat.two_pow_pos i
  have e2:n+1=((k+1)*2 ^ m*2)*2 ^ i:=by
   rw [<-e,Nat.pow_add,Nat.pow_succ,Nat.mul_assoc (k+1),Nat.mul_assoc (k+1)];congr 1
   rw [Nat.mul_comm (2 ^ i*2),<-Nat.mul_assoc,Nat.mul_assoc (2 ^ m),Nat.mul_assoc (2 ^ m),Nat.mul_comm 2 (2 ^ i)]
  obtain ⟨q,hq⟩:∃ q,(k+1)*2 ^ m=q+1:=⟨(k+1)*2 ^ m - 1,by have:0<(k+1)*2 ^ m:=Nat.mul_pos (by omega) (Nat.two_pow_pos m);omega⟩
  rw [hq] at e2
  have e3:n=(2*q+1)*2 ^ i+(2 ^ i - 1):=by
   have:(q+1)*2*2 ^ i=(2*q+1)*2 ^ i+2 ^ i:=by rw [show (q+1)*2=2*q+1+1 by omega,Nat.add_mul,Nat.one_mul]
   omega
  have e4:n / 2 ^ i=2*q+1:=by
   rw [e3,Nat.mul_comm (2*q+1),Nat.mul_add_div hpi,Nat.div_eq_of_lt (by omega),Nat.add_zero]
  omega
theorem z8K (n:Nat):∃ t,ONES n t/\n / 2 ^ t % 2=0:=by
 suffices h:∀ m j,ONES n j->n<=m+j->∃ t,ONES n t/\n / 2 ^ t % 2=0 from h n 0 (fun i hi=>by omega) (by omega)
 intro m;induction m with
 | zero=>
   intro j hj hn;refine ⟨j,hj,?_⟩;have:n<2 ^ j:=Nat.lt_of_le_of_lt (by omega) (Nat.lt_two_pow_self (n:=j));rw [Nat.div_eq_of_lt this]
 | succ m ih=>
   intro j hj hn;by_cases e:n / 2 ^ j % 2=0
   ·exact ⟨j,hj,e⟩
   ·exact ih (j+1) (hj.next (by omega)) (by omega)
theorem ONES.nodes {n t:Nat} (h:ONES n t) (ht:n / 2 ^ t % 2=0):z02 (n+1)=z02 n+t+1:=by
 have hp:0<2 ^ t:=Nat.two_pow_pos t;obtain ⟨q,hq⟩:∃ q,n / 2 ^ t=2*q:=⟨n / 2 ^ t / 2,by omega⟩
 have hs:=h.span;rw [hq] at hs;have e1:PC (n+1)=PC q+1:=by rw [<-hs,z2f,z3u]
 have e2:n=(2*q)*2 ^ t+(2 ^ t - 1):=by
  have:(2*q+1)*2 ^ t=2*q*2 ^ t+2 ^ t:=by rw [Nat.add_mul,Nat.one_mul]
  omega
 have e3:PC n=PC q+t:=by
  rw [e2,z4l t (2*q) (2 ^ t - 1) (by omega),z4R,z6x]
 have h1:=z0A n;have h2:=z0A (n+1);omega
theorem ONES.lt {n t:Nat} (h:ONES n t):t<=n:=by
 have h1:=h.span;have h2:t<2 ^ t:=Nat.lt_two_pow_self;have h3:1*2 ^ t<=(n / 2 ^ t+1)*2 ^ t:=Nat.mul_le_mul_right _ (Nat.le_add_left 1 _);generalize n / 2 ^ t=q at *
 omega
theorem z3l {n h k:Nat} (hk:(k+1)*2 ^ h<=n):PLC h k<z02 n:=by
 have h1:=z5r h k;have h2:=z6y h k;obtain ⟨m,hm⟩:∃ m,(k+1)*2 ^ h=m+1:=⟨(k+1)*2 ^ h - 1,by omega⟩
 rw [hm,Nat.add_sub_cancel] at h1;have h3:z02 (m+1)<=z02 n:=z3G (by omega);have ho:ONES m h:=(ONES.of_span hm).2;obtain ⟨t,ht1,ht2⟩:∃ t,ONES m t/\m / 2 ^ t % 2=0:=z8K m;have h4:=ht1.nodes ht2
 have h5:h<=t:=by
  rcases Nat.lt_or_ge t h with hlt | hge
  ·have:=ho t hlt
   omega
  ·exact hge
 omega
theorem STORE.foot_lt {w:World} {B g log len alive N b:Nat} {C:z01} (hS:STORE w B g log len alive N C) (hb:FOOT w g C b):b<w.heap.size:=by
 rcases hb with e | ⟨k,gc,rs,e,h⟩
 ·obtain ⟨mv,m1,m2,m3⟩:=hS.map
  rw [e] at m1;have hm:mv=some b:=by cases Option.some.inj m1;rfl
  obtain ⟨_,n,_,hc⟩:=m3 b hm;exact hc.lt
 ·obtain ⟨⟨_,z1⟩,z2,z3⟩:=(hS.chunk k gc rs e).2.1.kinds
  rcases h with rfl | ⟨v,hv,h⟩ | ⟨r,hr,rfl⟩
  ·exact (Array.getElem?_eq_some_iff.1 z1).1
  ·obtain ⟨_,hc⟩:=z2 v b hv h
   exact (Array.getElem?_eq_some_iff.1 hc).1
  ·obtain ⟨_,hc⟩:=z3 r hr
   exact (Array.getElem?_eq_some_iff.1 hc).1
theorem STORE.foot_below {w w':World} {B g log len alive N b:Nat} {C:z01} (hS:STORE w B g log len alive N C) (hb:Below w.heap.size w w') (hf:FOOT w' g C b):FOOT w g C b:=by
 have hg:=hS.lt;have cell:∀ i,w'.cell? ⟨g,i,none⟩=w.cell? ⟨g,i,none⟩:=fun i=>hb.cell (by exact hg);rcases hf with h | ⟨k,gc,rs,e,h⟩
 ·left;rw [<-cell 3];exact h
 ·refine .inr ⟨k,gc,rs,e,?_⟩
  rcases h with h | ⟨v,hv,h⟩ | h
  ·exact .inl h
  ·obtain ⟨x,hx,_⟩:=(hS.chunk k gc rs e).2.1.box
   exact .inr (.inl ⟨v,by rw [<-hv];exact (hb.cell (by exact hx.lt)).symm,h⟩)
  ·exact .inr (.inr h)
structure TSTEP (w w':World) (g:Nat) (C C':z01):Prop where
 foot:∀ b,FOOT w' g C' b->FOOT w g C b\/w.heap.size<=b
 same:∀ b,b<w.heap.size->b≠g->¬ FOOT w g C b->w'.heap[b]?=w.heap[b]?
 size:w.heap.size<=w'.heap.size
 pin:w'.cell? ⟨g,4,none⟩=w.cell? ⟨g,4,none⟩
theorem STEP.tree {w w':World} {g:Nat} {C C':z01} (h:STEP w w' g C C'):TSTEP w w' g C C':=⟨h.foot,h.same,h.size,h.pins 4 (by decide)⟩
theorem TSTEP.trans {w w' w'':World} {g:Nat} {C C' C'':z01} (h:TSTEP w w' g C C') (h':TSTEP w' w'' g C' C''):TSTEP w w'' g C C'':=by
 have hs:=h.size;refine ⟨fun b hb=>?_,fun b hb hg hf=>?_,Nat.le_trans h.size h'.size,h'.pin.trans h.pin⟩
 ·rcases h'.foot b hb with h1 | h1
  ·exact h.foot b h1
  ·exact .inr (by omega)
 ·refine (h'.same b (by omega) hg (fun hf'=>?_)).trans (h.same b hb hg hf)
  rcases h.foot b hf' with h1 | h1
  ·exact hf h1
  ·omega
theorem STORE.side {w:World} {B g log len alive N:Nat} {C:z01} (hS:STORE w B g log len alive N C) (i0:Nat) (hi0:5<=i0) (u:Value):STORE (w.setCell ⟨g,i0,none⟩ u) B g log len alive N C/\TSTEP w (w.setCell ⟨g,i0,none⟩ u) g C C:=by
 obtain ⟨cs,t,fr,k1,k2,k3,k4⟩:=hS.kind;obtain ⟨w2,hw2⟩:∃ w2,w.setCell ⟨g,i0,none⟩ u=w2:=⟨_,rfl⟩
 rw [hw2];have hset:∀ b,b≠g->w2.heap[b]?=w.heap[b]?:=fun b hb=>by rw [<-hw2];exact Below.heap_setCell _ _ _ b (by exact hb)
 have cell:∀ i,i≠i0->w2.cell? ⟨g,i,none⟩=w.cell? ⟨g,i,none⟩:=fun i hi=>by rw [<-hw2,z1N (fun e=>hi e.symm)]
 have hch:∀ k gc rk,C k=some (gc,rk)->gc≠g/\(∀ v x,w.cell? ⟨gc,0,none⟩=some v->v.ownBlock=some x->x≠g)/\∀ r∈rk,r.gh≠g:=fun k gc rk e=>by
  obtain ⟨⟨_,z1⟩,z2,z3⟩:=(hS.chunk k gc rk e).2.1.kinds;refine ⟨fun e=>z09 k1 z1 k2 e.symm,fun v x hv hx=>?_,fun r hr=>?_⟩
  ·obtain ⟨_,hc⟩:=z2 v x hv hx
   exact fun e=>z09 k1 hc k3 e.symm
  ·obtain ⟨_,hc⟩:=z3 r hr
   exact fun e=>z09 k1 hc k4 e.symm
 have hcc:∀ k gc rk,C k=some (gc,rk)->w2.cell? ⟨gc,0,none⟩=w.cell? ⟨gc,0,none⟩:=fun k gc rk e=>World.cell?_of_block (w:=w) (by exact hset gc (hch k gc rk e).1);refine ⟨⟨hS.small,hS.short,(cell 0 (by omega)).trans hS.c0,?_,(cell 2 (by omega)).trans hS.c2,fun i hi=>?_,?_,?_,?_,?_⟩,?_⟩
 ·exact (cell 1 (by omega)).trans hS.c1
 ·rw [<-hw2,World.frozen?_setCell]
  exact hS.live i hi
 ·obtain ⟨cs',h1⟩:=z2m (i:=i0) k1 u
  exact ⟨cs',t,fr,by rw [<-hw2];exact h1,k2,k3,k4⟩
 ·obtain ⟨mv,m1,m2,m3⟩:=hS.map
  refine ⟨mv,(cell 3 (by omega)).trans m1,m2,fun b e=>?_⟩;obtain ⟨c1,n,c2,c3⟩:=m3 b e;refine ⟨c1,n,c2,c3.at (hset b (fun e=>?_))⟩;obtain ⟨D,⟨es,clock,h1,_⟩,_⟩:=c3;rw [e,k1] at h1;cases h1
 ·intro k gc rk e
  obtain ⟨b1,b2,b3⟩:=hS.chunk k gc rk e;obtain ⟨d1,d2,d3⟩:=hch k gc rk e;exact ⟨b1,b2.at (hset _ d1) (fun v x hv hx=>hset _ (d2 v x hv hx)) (fun r hr=>hset _ (d3 r hr)),b3⟩
 ·intro k k' gc gc' rs rs' hne e e'
  obtain ⟨o1,o2,o3⟩:=hS.one k k' gc gc' rs rs' hne e e';exact ⟨o1,o2,fun v v' hv hv'=>o3 v v' (by rw [<-hcc k gc rs e];exact hv) (by rw [<-hcc k' gc' rs' e'];exact hv')⟩
 ·refine ⟨fun b h=>.inl ?_,fun b _ hbg _=>hset b hbg,by rw [<-hw2];simp,cell 4 (by omega)⟩
  rcases h with h | ⟨k,gc,rs,e,h⟩
  ·left;rw [<-cell 3 (by omega)];exact h
  ·refine .inr ⟨k,gc,rs,e,?_⟩
   rcases h with h | ⟨v,hv,h⟩ | h
   ·exact .inl h
   ·exact .inr (.inl ⟨v,by rw [<-hcc k gc rs e];exact hv,h⟩)
   ·exact .inr (.inr h)
theorem z8L {fn:Func} {p:Tmp} {ty:TypeId} (h:fn.results=#[.cell p ty]) (tmps:Array Value) (w:World) (g:Nat) (t:TypeId) (cs:Array Value) (fr:Nat × Nat) (k:Nat) (el:TypeId)
  (hp:tmps.getD p undef=.pointer (some ⟨g,0,none⟩)) (hg:w.heap[g]?=some (.cells cs t fr))
  (hu:Tryz.prog.underlying ty=some (.array k el)) (hi:(Tryz.prog.info? ty).map (·.size)=some cs.size):
  (results fn tmps).run Tryz.prog w=.ok (.agg cs) w:=by
 have hp':tmps[p]?.getD undef=.pointer (some ⟨g,0,none⟩):=by simpa using hp
 simp [results,h,hp',asAddr,run_loadVar_row w g t ty cs fr (.array k el) hg hu rfl hi]
theorem zgF {w:World} {B g log len alive N:Nat} {C:z01} (hS:STORE w B g log len alive N C) (j k:Nat) (hN:Node j k) (hj:j<62) (hs:PLC j (SIB k)<len) (L:Nat->Nat) (hL:AT C log (PLC j (SIB k))=some L):
  Calls Tryz.prog 24 #[.pointer (some ⟨g,0,none⟩),.int .u64 ((PLC j k:Nat):Int)] w fun e w'=>e=.returned (.agg (UARR .u8 32 L))/\Below w.heap.size w w':=by
 have hz:=z1I;obtain ⟨w0,hw0⟩:∃ w0,w.alloc (.cells (UARR .u8 32 fun _=>0) 25)=w0:=⟨_,rfl⟩
 have hb0:Below w.heap.size w w0:=by rw [<-hw0];exact (Below.refl _ _).alloc (Nat.le_refl _) _
 have h40:Has w0 w.heap.size (UARR .u8 32 fun _=>0) 25:=by rw [<-hw0];exact Has.new w _ _
 have cs:=zbm j k hN hj w0;have hp64:PLC j (SIB k)<2 ^ 64:=by have:=hS.short;omega
 have cg:=fun (W:World) (hb:Below w0.heap.size w0 W)=>zdk ((hS.below hb0).below hb) (PLC j (SIB k)) hp64;have e1:GOTH C log len (PLC j (SIB k))=L:=by unfold GOTH;rw [if_pos hs,hL];rfl
 have e2:GOT C log len (PLC j (SIB k))=0:=by unfold GOT;rw [if_pos hs,hL];rfl
 rw [e1,e2] at cg;clear hS hN hj hs hL e1 e2 hp64;generalize PLC j (SIB k)=q at *
 generalize PLC j k=p at *
 go_enter Tryz.func24,Tryz.ntmps24;go_wp2_with fail
 refine cs.mono ?_;rintro e w1 ⟨rfl,hb1⟩;clear cs;go_wp2_with fail
 refine (cg w1 hb1).mono ?_;rintro e w2 ⟨rfl,hb2⟩;clear cg;have hst:=run_storeCells_new (P:=Tryz.prog) w2 25 (UARR .u8 32 fun _=>0) (UARR .u8 32 L) (z04 _) (by rw [z03,z03]) (z0j _ _ _);have hsu:=z03 .u8 32 L;obtain ⟨w3,hw3⟩:∃ w3,w2.alloc (.cells (UARR .u8 32 L) 25)=w3:=⟨_,rfl⟩
 have hb12:Below w0.heap.size w0 w2:=hb1.trans (hb2.mono hb1.size);have hb3:Below w0.heap.size w0 w3:=by rw [<-hw3];exact hb12.alloc hb12.size _
 have hF3:Has w3 w2.heap.size (UARR .u8 32 L) 25:=by rw [<-hw3];exact Has.new w2 _ _
 have h43:=h40.keep hb3;have hb3':Below w.heap.size w w3:=hb0.trans (hb3.mono hb0.size);have hst2:=z0I h43 L
 go_wp2_with (first
  | (refine wpList_load_row rfl 25 (.tmp 7) rfl w2.heap.size rfl 25 (UARR .u8 32 L) (0,0) _ hF3 Tryz.underlying25 rfl (z04 _) ?_)
  | fail)
 refine bodyPost_ret (v:=.agg (UARR .u8 32 L)) ?_ rfl ⟨rfl,z0d hb3' (Nat.le_refl _) _⟩;exact z8L rfl _ _ w.heap.size 25 _ (0,0) _ _ rfl (h43.row _) Tryz.underlying25 (z04 _)
theorem z9U {w:World} {B g log len alive N:Nat} {C:z01} (hS:STORE w B g log len alive N C) (p:Nat) (hp:p<2 ^ 64):
  Calls Tryz.prog 156 #[.pointer (some ⟨g,0,none⟩),.int .u64 (p:Int)] w fun e w'=>e=.returned (.tuple #[.agg (UARR .u8 32 (GOTH C log len p)),.int .i64 (GOT C log len p)])/\Below w.heap.size w w':=by
 have hz:=z1I;obtain ⟨w0,hw0⟩:∃ w0,w.alloc (.cells (UARR .u8 32 fun _=>0) 25)=w0:=⟨_,rfl⟩
 have hb0:Below w.heap.size w w0:=by rw [<-hw0];exact (Below.refl _ _).alloc (Nat.le_refl _) _
 have h40:Has w0 w.heap.size (UARR .u8 32 fun _=>0) 25:=by rw [<-hw0];exact Has.new w _ _
 have cg:=zdk (hS.below hb0) p hp;clear hS;generalize GOTH C log len p=L at *
 generalize GOT C log len p=E at *
 go_enter Tryz.func156,Tryz.ntmps156;go_wp2_with fail
 refine cg.mono ?_;rintro e w1 ⟨rfl,hb1⟩;clear cg;have h41:=h40.keep hb1;have hst2:=z0I h41 L;have hb1':Below w.heap.size w w1:=hb0.trans (hb1.mono hb0.size);have hsu:=z03 .u8 32 L;go_wp2;refine bodyPost_ret (v:=.tuple #[.agg (UARR .u8 32 L),.int .i64 E]) ?_ rfl ⟨rfl,z0d hb1' (Nat.le_refl _) _⟩;exact z0E rfl _ _ w.heap.size 25 _ (0,0) _ _ rfl (h41.row _) _ rfl Tryz.underlying25 (z04 _)
structure FOREST (w:World) (B g:Nat) (d:Int) (log n:Nat) (C:z01) (f:Nat->Nat->Nat):Prop where
 store:STORE w B g log (z02 n) (z02 n) (z02 n) C
 width:w.cell? ⟨g,5,none⟩=some (.int .i64 d)
 size:w.cell? ⟨g,6,none⟩=some (.int .u64 (n:Int))
 free:w.frozen? ⟨g,6,none⟩=false
 node:∀ h k,(k+1)*2 ^ h<=n->AT C log (PLC h k)=some (VAL d f h k)
 byte:∀ k,k<n->∀ i,f k i<256
 few:n<=2 ^ 20
 base:B<=g
def z4K (d:Int) (log:Nat):Array Value:=#[.int .i64 (log:Int),.int .u64 0,.int .u64 0,.map none,.map none,.int .i64 d,.int .u64 0]
theorem FOREST.new {w:World} {B g:Nat} {d:Int} {log:Nat} (h:Has w g (z4K d log) 65) (hl:log<=16) (hB:B<=g) (f:Nat->Nat->Nat):FOREST w B g d log 0 (fun _=>none) f:=by
 refine ⟨⟨hl,by decide,h.cell 0,h.cell 1,h.cell 2,fun i _=>h.frozen i,⟨_,_,_,h,by decide,by decide,by decide⟩,⟨none,h.cell 3,fun _ _=>rfl,fun b e=>by cases e⟩,fun k gc rs e=>(by cases e),fun k k' gc gc' rs rs' _ e=>by cases e⟩,h.cell 5,h.cell 6,h.frozen 6,fun h k hk=>?_,fun k hk=>by omega,by decide,hB⟩;have:=z6y h k;omega
theorem FOREST.below {w w':World} {B g:Nat} {d:Int} {log n:Nat} {C:z01} {f:Nat->Nat->Nat} (h:FOREST w B g d log n C f) (hb:Below w.heap.size w w'):FOREST w' B g d log n C f:=by
 have hg:=h.store.lt;refine ⟨h.store.below hb,(hb.cell (p:=⟨g,5,none⟩) hg).trans h.width,(hb.cell (p:=⟨g,6,none⟩) hg).trans h.size,?_,h.node,h.byte,h.few,h.base⟩;exact (World.frozen?_of_block (w:=w) (by exact hb.block g hg)).trans h.free
theorem zbX (d:Int) (log:Nat) (h:log<=16) (w:World):Calls Tryz.prog 5 #[.int .i64 d,.int .i64 (log:Int)] w fun e w'=>
  ∃ g,e=.returned (.tuple #[.pointer (some ⟨g,0,none⟩),.int .i64 0])/\w.heap.size<=g/\Has w' g (z4K d log) 65/\Below w.heap.size w w':=by
 have cn:=z9G log h w;obtain ⟨w1,hw1⟩:∃ w1,w.alloc (.cells (zbG log) 63)=w1:=⟨_,rfl⟩
 rw [hw1] at cn;have hH:Has w1 w.heap.size (zbG log) 63:=by rw [<-hw1];exact Has.new w _ _
 have hb:Below w.heap.size w w1:=by rw [<-hw1];exact (Below.refl _ _).alloc (Nat.le_refl _) _
 clear hw1;go_enter Tryz.func5,Tryz.ntmps5;go_wp2_with fail
 refine cn.mono ?_;rintro e w2 ⟨rfl,rfl⟩;clear cn;have x0:=hH.cell 0;have x1:=hH.cell 1;have x2:=hH.cell 2;have x3:=hH.cell 3;have x4:=hH.cell 4;go_wp2_with fail
 go_ret2;exact ⟨_,rfl,hb.size,Has.new _ _ _,hb.alloc hb.size _⟩
theorem STORE.held {w w':World} {B g log len alive N:Nat} {C:z01} (hS:STORE w B g log len alive N C) (hg:w'.heap[g]?=w.heap[g]?) (hblk:∀ x,FOOT w g C x->w'.heap[x]?=w.heap[x]?):STORE w' B g log len alive N C/\(∀ x,FOOT w' g C x->FOOT w g C x)/\∀ i,w'.cell? ⟨g,i,none⟩=w.cell? ⟨g,i,none⟩:=by
 have cell:∀ i,w'.cell? ⟨g,i,none⟩=w.cell? ⟨g,i,none⟩:=fun i=>World.cell?_of_block (w:=w) (by exact hg)
 have hch:∀ k gc rk,C k=some (gc,rk)->w'.heap[gc]?=w.heap[gc]?/\(∀ v x,w.cell? ⟨gc,0,none⟩=some v->v.ownBlock=some x->w'.heap[x]?=w.heap[x]?)/\∀ r∈rk,w'.heap[r.gh]?=w.heap[r.gh]?:=fun k gc rk e=>
  ⟨hblk _ (.inr ⟨k,gc,rk,e,.inl rfl⟩),fun v x hv hx=>hblk _ (.inr ⟨k,gc,rk,e,.inr (.inl ⟨v,hv,hx⟩)⟩),fun r hr=>hblk _ (.inr ⟨k,gc,rk,e,.inr (.inr ⟨r,hr,rfl⟩)⟩)⟩
 have hcc:∀ k gc rk,C k=some (gc,rk)->w'.cell? ⟨gc,0,none⟩=w.cell? ⟨gc,0,none⟩:=fun k gc rk e=>World.cell?_of_block (w:=w) (by exact (hch k gc rk e).1);refine ⟨⟨hS.small,hS.short,(cell 0).trans hS.c0,(cell 1).trans hS.c1,(cell 2).trans hS.c2,fun i hi=>?_,?_,?_,?_,?_⟩,fun x h=>?_,cell⟩
 ·have:=hS.live i hi
  unfold World.frozen? at this ⊢;rw [show w'.heap[g]?=w.heap[g]? from hg];exact this
 ·obtain ⟨cs,t,fr,k1,k2⟩:=hS.kind
  exact ⟨cs,t,fr,hg.trans k1,k2⟩
 ·obtain ⟨mv,m1,m2,m3⟩:=hS.map
  refine ⟨mv,(cell 3).trans m1,m2,fun x e=>?_⟩;obtain ⟨c1,n,c2,c3⟩:=m3 x e;refine ⟨c1,n,c2,c3.at (hblk x (.inl (by rw [m1,e])))⟩
 ·intro k gc rk e
  obtain ⟨b1,b2,b3⟩:=hS.chunk k gc rk e;obtain ⟨d1,d2,d3⟩:=hch k gc rk e;exact ⟨b1,b2.at d1 d2 d3,b3⟩
 ·intro k k' gc gc' rs rs' hne e e'
  obtain ⟨o1,o2,o3⟩:=hS.one k k' gc gc' rs rs' hne e e';exact ⟨o1,o2,fun v v' hv hv'=>o3 v v' (by rw [<-hcc k gc rs e];exact hv) (by rw [<-hcc k' gc' rs' e'];exact hv')⟩
 ·rcases h with h | ⟨k,gc,rs,e,h⟩
  ·left;rw [<-cell 3];exact h
  ·refine .inr ⟨k,gc,rs,e,?_⟩
   rcases h with h | ⟨v,hv,h⟩ | h
   ·exact .inl h
   ·exact .inr (.inl ⟨v,by rw [<-hcc k gc rs e];exact hv,h⟩)
   ·exact .inr (.inr h)
def APART (w:World) (g:Nat) (C:z01) (g':Nat) (C':z01):Prop:=∀ x,(x=g\/FOOT w g C x)->(x=g'\/FOOT w g' C' x)->False
theorem APART.symm {w:World} {g g':Nat} {C C':z01} (h:APART w g C g' C'):APART w g' C' g C:=fun x a b=>h x b a
theorem STORE.foot_base {w:World} {B g log len alive N b:Nat} {C:z01} (hS:STORE w B g log len alive N C) (hb:FOOT w g C b):B<=b:=by
 rcases hb with e | ⟨k,gc,rs,e,h⟩
 ·obtain ⟨mv,m1,m2,m3⟩:=hS.map
  rw [e] at m1;have hm:mv=some b:=by cases Option.some.inj m1;rfl
  exact (m3 b hm).1
 ·have hC:=(hS.chunk k gc rs e).2.1
  rcases h with rfl | ⟨v,hv,h⟩ | ⟨r,hr,rfl⟩
  ·exact hC.far
  ·obtain ⟨v0,h1,h2⟩:=hC.box
   rw [h1.cell 0] at hv;cases Option.some.inj hv;exact (h2.lt b h).1
  ·exact ((hC.row r hr).2.2.2.2.lt r.gh rfl).1
theorem STORE.later {w w':World} {B g g' log len alive N log' len' alive' N':Nat} {C C':z01} (h:STORE w B g log len alive N C) (hb:Below w.heap.size w w') (h':STORE w' w.heap.size g' log' len' alive' N' C') (hg':w.heap.size<=g'):APART w' g C g' C':=fun x hx hx'=>by
 have h1:x<w.heap.size:=by
  rcases hx with rfl | hf
  ·exact h.lt
  ·exact h.foot_lt (h.foot_below hb hf)
 rcases hx' with rfl | hf
 ·omega
 ·have:=h'.foot_base hf
  omega
theorem FOREST.held {w w':World} {B g:Nat} {d:Int} {log n:Nat} {C:z01} {f:Nat->Nat->Nat} (h:FOREST w B g d log n C f) (hg:w'.heap[g]?=w.heap[g]?) (hblk:∀ x,FOOT w g C x->w'.heap[x]?=w.heap[x]?):FOREST w' B g d log n C f/\∀ x,FOOT w' g C x->FOOT w g C x:=by
 obtain ⟨s1,s2,s3⟩:=h.store.held hg hblk;exact ⟨⟨s1,(s3 5).trans h.width,(s3 6).trans h.size,s1.live 6 (by decide),h.node,h.byte,h.few,h.base⟩,s2⟩
theorem APART.below {w w':World} {B B' g g':Nat} {d d':Int} {log log' n n':Nat} {C C':z01} {f f':Nat->Nat->Nat} (ha:APART w g C g' C') (h:FOREST w B g d log n C f) (h':FOREST w B' g' d' log' n' C' f') (hb:Below w.heap.size w w'):APART w' g C g' C':=fun x hx hx'=>
 ha x (hx.imp id (h.store.foot_below hb)) (hx'.imp id (h'.store.foot_below hb))
theorem APART.later {w w':World} {B g g':Nat} {d:Int} {log n:Nat} {C C':z01} {f:Nat->Nat->Nat} (h:FOREST w B g d log n C f) (hb:Below w.heap.size w w') (hg':w.heap.size<=g') (hf':∀ x,x<w.heap.size->¬ FOOT w' g' C' x):APART w' g C g' C':=fun x hx hx'=>by
 have h1:x<w.heap.size:=by
  rcases hx with rfl | hf
  ·exact h.store.lt
  ·exact h.store.foot_lt (h.store.foot_below hb hf)
 rcases hx' with rfl | hf
 ·omega
 ·exact hf' x h1 hf
end Go.Proofs.YtlbcnaenhghieaaGreatDoor.HX
namespace Go.Proofs.YtlbcnaenhghieaaGreatDoor
open Go.RowKit Go.Maps
set_option maxRecDepth 100000
def RV (v:Value):Option (DataW Value × List MemPlace):=some (.held v,[])
theorem z1I (w:World):(zeroValue 25).run Tryz.prog w=.ok (.agg ZARR) w:=by kernel_rfl
def SMAP (w:World) (b n:Nat) (M:Nat->Nat->List Int):Prop:=∃ D:DataW Value,w.ownsMap Tryz.prog 102 RV b n D/\∀ h k,h<256->k<2 ^ 64->D.atKey (KL h k) (.held (.agg ZARR))=.held (.agg (z00 (M h k)).toArray)
theorem SMAP.made (w:World):SMAP (w.alloc (.map #[] 0)) w.heap.size 0 (fun _ _=>ZND):=⟨_,World.ownsMap_made w _ _ _,fun h k _ _=>by simp [DataW.atKey];rfl⟩
theorem SMAP.lt {w:World} {b n:Nat} {M:Nat->Nat->List Int} (h:SMAP w b n M):b<w.heap.size:=let ⟨_,h1,_⟩:=h;h1.lt
theorem SMAP.at {w w':World} {b n:Nat} {M:Nat->Nat->List Int} (h:SMAP w b n M) (hb:w'.heap[b]?=w.heap[b]?):SMAP w' b n M:=by
 obtain ⟨D,⟨es,clock,h1,r⟩,h2⟩:=h;exact ⟨D,⟨es,clock,hb.trans h1,r⟩,h2⟩
theorem SMAP.below {w w':World} {b n:Nat} {M:Nat->Nat->List Int} (h:SMAP w b n M) (hb:Below w.heap.size w w'):SMAP w' b n M:=h.at (hb.block b h.lt)
end Go.Proofs.YtlbcnaenhghieaaGreatDoor
namespace Go.Proofs.YtlbcnaenhghieaaGreatDoor
open Go.RowKit
set_option maxRecDepth 100000
def LST (f:Nat->Nat):List Int:=(List.range 32).map fun i=>((f i:Nat):Int)
def FNC (h:List Int) (i:Nat):Nat:=(h.getD i 0).toNat
def IsH (h:List Int):Prop:=h.length=32/\∀ x∈h,0<=x/\x<=255
theorem z6f (f:Nat->Nat):(LST f).length=32:=by simp [LST]
theorem zdD {f:Nat->Nat} (h:∀ i,f i<256):IsH (LST f):=⟨z6f f,fun x hx=>by
 obtain ⟨i,_,rfl⟩:=List.mem_map.1 hx;have:=h i;omega⟩
theorem z44 (f:Nat->Nat):HX.UARR .u8 32 f=(z00 (LST f)).toArray:=by
 unfold HX.UARR z00 LST;rw [List.map_map];rfl
theorem zaR {h:List Int} (hh:IsH h):LST (FNC h)=h:=by
 apply List.ext_getElem (by rw [z6f,hh.1]);intro i h1 h2;simp only [LST,List.getElem_map,List.getElem_range,FNC];have:=hh.2 h[i] (List.getElem_mem h2);rw [List.getD_eq_getElem?_getD,List.getElem?_eq_getElem h2,Option.getD_some];omega
theorem z45 {h:List Int} (hh:IsH h):(z00 h).toArray=HX.UARR .u8 32 (FNC h):=by rw [z44,zaR hh]
theorem z6g {h:List Int} (hh:IsH h) (i:Nat):FNC h i<256:=by
 unfold FNC;by_cases hi:i<h.length
 ·rw [List.getD_eq_getElem?_getD,List.getElem?_eq_getElem hi,Option.getD_some]
  have:=hh.2 h[i] (List.getElem_mem hi);omega
 ·rw [List.getD_eq_getElem?_getD,List.getElem?_eq_none (by omega)]
  decide
def NATS (h:List Int):List Nat:=(List.range 32).map (FNC h)
def z0X (d:Int) (l r:List Int):List Int:=LST (HX.z0F d (1 :: (NATS l ++ NATS r)))
theorem zfk (d:Int) (l r:List Int):IsH (z0X d l r):=zdD fun i=>HX.z32 d _ _ i
end Go.Proofs.YtlbcnaenhghieaaGreatDoor
