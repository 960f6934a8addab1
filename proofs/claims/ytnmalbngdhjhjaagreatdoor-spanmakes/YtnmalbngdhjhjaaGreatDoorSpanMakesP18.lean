/- Texts of SpanMakes, one behind the other: HashPairTexts, HashRootText, HashEq, HashSumPlain, MmrPlain, StoreTree, NumLowPlain, NumLowCalls. -/
import Derived.ChangeKeysEq
import Derived.Deep.RegionHeldLaw
import Derived.Deep.RegionHeld3
import Derived.Deep.LoopGhost
import Derived.Test.YtnmalbngdhjhjaaGreatDoorSpanMakesP15
import Derived.Test.YtnmalbngdhjhjaaGreatDoorSpanMakesP17
namespace Go.Proofs.YtnmalbngdhjhjaaGreatDoor.HX
open Go.RowKit
set_option maxRecDepth 100000
theorem z0s {w:World} {base base':Nat} {t:TypeId} {s:Nat} {v:Value} {n:Nat} {xs:List Value} (h:w.ownsRow base t s v n xs) (hb:base'≤base):w.ownsRow base' t s v n xs:=
  ⟨h.1,h.2.imp id fun ⟨g,c,cur,a,b,r⟩=>⟨g,c,cur,a,Nat.le_trans hb b,r⟩⟩
theorem z54 (b:Nat) (w:World):(Instr.sliceAt 35 (.pointer (some ⟨b,0,none⟩)) none none none).run Tryz.prog w=.ok (.slice (some ⟨b,0,none⟩) 32 32) w:=by
  have hn:Tryz.prog.arrayLen 35=32:=by kernel_rfl
  rw [run_sliceAt_array_all w 35 ⟨b,0,none⟩ (by kernel_rfl),hn]
  have he:Tryz.prog.elem 35=5:=by kernel_rfl
  obtain ⟨i8,hi,h8⟩:=Option.map_eq_some_iff.1 z0M
  simp only [Prod.mk.injEq] at h8
  rw [he]
  simp [sizeOf,typeInfo,hi,h8.2.1,slicedAt,Addr.add]
theorem Has.text {w:World} {g:Nat} {f:Nat→Nat} {t:TypeId} (h:Has w g (UARR .u8 32 f) t) (hf:∀ i,f i<256):Text w (some ⟨g,0,none⟩) 32 ((List.range 32).map f):=
  ⟨by simp,fun _=>⟨g,0,rfl,h.lt,fun i hi=>by rw [Nat.zero_add,h.cell,z0f _ _ _ _ hi,List.getD_eq_getElem?_getD,List.getElem?_map,List.getElem?_range hi];rfl⟩,fun x hx=>by obtain ⟨i,_,rfl⟩:=List.mem_map.1 hx;exact hf i⟩
theorem zcr {w:World} {l r:Nat→Nat} {g h:Nat} {t u:TypeId} (hl:∀ i,l i<256) (hr:∀ i,r i<256) (h1:Has w g (UARR .u8 32 l) t) (h2:Has w h (UARR .u8 32 r) u):Parts (w.alloc (.cells #[.slice (some ⟨g,0,none⟩) 32 32,.slice (some ⟨h,0,none⟩) 32 32] 53)) (some ⟨w.heap.size,0,none⟩) 2 [⟨some ⟨g,0,none⟩,32,32,(List.range 32).map l⟩,⟨some ⟨h,0,none⟩,32,32,(List.range 32).map r⟩]:=
  ⟨rfl,fun _=>⟨w.heap.size,0,rfl,by simp,fun i p hp=>by
    have hi:i<2:=(List.getElem?_eq_some_iff.1 hp).1
    rw [World.cell?_alloc_at _ _ _ _ rfl]
    have h2:i=0∨i=1:=by omega
    rcases h2 with rfl | rfl <;> (simp at hp;subst hp;rfl)⟩,fun p hp=>by
    simp only [List.mem_cons,List.not_mem_nil,or_false] at hp
    rcases hp with rfl | rfl
    · exact ⟨(h1.alloc _).text hl,Nat.le_refl _,fun x e=>by simp only [Option.some.injEq] at e;rw [← e];exact (h1.alloc _).lt⟩
    · exact ⟨(h2.alloc _).text hr,Nat.le_refl _,fun x e=>by simp only [Option.some.injEq] at e;rw [← e];exact (h2.alloc _).lt⟩⟩
theorem z87 (l r:Nat→Nat) (g h:Nat):JOIN [⟨some ⟨g,0,none⟩,32,32,(List.range 32).map l⟩,⟨some ⟨h,0,none⟩,32,32,(List.range 32).map r⟩]=(List.range 32).map l ++ (List.range 32).map r:=by simp [JOIN]
theorem z9i (l r:Nat→Nat) (hl:∀ i,l i<256) (hr:∀ i,r i<256) (w:World):Calls Tryz.prog 81 #[.agg (UARR .u8 32 l),.agg (UARR .u8 32 r)] w fun e w'=>
    ∃ a' c',e=.returned (.slice a' 65 c')∧w'.ownsRow w.heap.size 5 1 (.slice a' 65 c') 65 (z00 (INTS (1 :: ((List.range 32).map l ++ (List.range 32).map r))))∧Below w.heap.size w w':=by
  have hs32:=z54
  have H:Aside ((∀ i,l i<256)∧(∀ i,r i<256)):=⟨hl,hr⟩
  clear hl hr
  go_enter Tryz.func81,Tryz.ntmps81
  go_wp2_with fail
  have U:Aside (Below w.heap.size w ((w.alloc (.cells (UARR .u8 32 l) 35)).alloc (.cells (UARR .u8 32 r) 35))∧Has ((w.alloc (.cells (UARR .u8 32 l) 35)).alloc (.cells (UARR .u8 32 r) 35)) w.heap.size (UARR .u8 32 l) 35∧Has ((w.alloc (.cells (UARR .u8 32 l) 35)).alloc (.cells (UARR .u8 32 r) 35)) (w.heap.size+1) (UARR .u8 32 r) 35):=⟨((Below.refl _ _).alloc (Nat.le_refl _) _).alloc (by simp) _,(Has.new w _ _).alloc _,Has.at _ _ _ (by simp)⟩
  generalize (w.alloc (.cells (UARR .u8 32 l) 35)).alloc (.cells (UARR .u8 32 r) 35)=w1 at *
  generalize hh:w.heap.size+1=h at *
  obtain ⟨X,hX⟩:∃ X,X=(w1.alloc (.cells #[.slice (some ⟨w.heap.size,0,none⟩) 32 32,.slice (some ⟨h,0,none⟩) 32 32] 53)).drew:=⟨_,rfl⟩
  have hXs:X.heap.size=w1.heap.size+1:=by rw [hX];simp [World.drew]
  have ct:Calls Tryz.prog 139 #[.int .u8 1,.slice (some ⟨w1.heap.size,0,none⟩) 2 2] X fun e w'=>∃ a' c',e=.returned (.slice a' 65 c')∧w'.ownsRow X.heap.size 5 1 (.slice a' 65 c') 65 (z00 (INTS (1 :: ((List.range 32).map l ++ (List.range 32).map r))))∧Below X.heap.size X w':=by
    have hh1:Has w1.drew w.heap.size (UARR .u8 32 l) 35:=U.out.2.1
    have hh2:Has w1.drew h (UARR .u8 32 r) 35:=U.out.2.2
    have k:=zfr 1 (by decide) _ 2 2 _ _ (zcr H.out.1 H.out.2 hh1 hh2) (fun p hp=>by simp only [List.mem_cons,List.not_mem_nil,or_false] at hp;rcases hp with rfl | rfl <;> (intro e;cases e)) (by rw [z87];simp) (by decide)
    have e65:((List.range 32).map l ++ (List.range 32).map r).length+1=65:=by simp
    rw [z87,e65] at k
    rw [hX]
    exact k
  have HX:Aside (Below w.heap.size w X∧w.heap.size≤X.heap.size):=⟨by rw [hX];exact (U.out.1.alloc U.out.1.size _).drew,by rw [hXs];have:=U.out.1.size;omega⟩
  rw [hX] at ct
  go_region_held3 (fun _=>True) (trivial) (first | (go_at_call 139;refine ct.mono ?_;rintro e w5 ⟨a5,c5,rfl,hown5,hb5⟩))
  rw [← hX] at hown5 hb5
  have S:Aside (w5.ownsRow w.heap.size 5 1 (.slice a5 65 c5) 65 (z00 (INTS (1 :: ((List.range 32).map l ++ (List.range 32).map r))))∧Below w.heap.size w w5):=⟨z0s hown5 HX.out.2,HX.out.1.trans (hb5.mono HX.out.2)⟩
  clear hown5 hb5 ct
  go_wp2
  go_ret
  exact ⟨a5,c5,rfl,S.out.1,S.out.2⟩
end Go.Proofs.YtnmalbngdhjhjaaGreatDoor.HX

namespace Go.Proofs.YtnmalbngdhjhjaaGreatDoor.HX
open Go.RowKit
set_option maxRecDepth 100000
end Go.Proofs.YtnmalbngdhjhjaaGreatDoor.HX

namespace Go.Proofs.YtnmalbngdhjhjaaGreatDoor.HX
open Go.RowKit
set_option maxRecDepth 100000
theorem Has.whole {w:World} {g:Nat} {F:Nat→Nat} {k:IntKind} {n:Nat} {t:TypeId} (h:Has w g (UARR k n F) t):w.rangeAt g 0 (z05 k n F):=fun j v hv=>by
  have hj:j<n:=by have:=(List.getElem?_eq_some_iff.1 hv).1;rw [z09] at this;exact this
  rw [z0T _ _ _ _ hj] at hv
  rw [Nat.zero_add,h.cell,z0f _ _ _ _ hj,hv]
theorem z55 {B:Nat} {w w':World} {g o:Nat} {cs:List Value} (h:w.rangeAt g o cs) (hb:Below B w w') (hg:g<B):w'.rangeAt g o cs:=fun j v hv=>(hb.cell (by exact hg)).trans (h j v hv)
end Go.Proofs.YtnmalbngdhjhjaaGreatDoor.HX

namespace Go.Proofs.YtnmalbngdhjhjaaGreatDoor.HX
open Go.RowKit
set_option maxRecDepth 100000
theorem zae {ops:Array Oper} {o:Oper} {a:Act} {K:Act→World→Prop} {Q:Exit→Act→World→Prop} {E:Prop} (w:World) (hgd:o.guard=none) (s x:Operand)
    (ho:o.op=.call {callee:=.builtin .append,args:=#[s,x],argTypes:=#[53,53]})
    (base:Nat) (v:Value) (n:Nat) (xs:List Int) (hs:a.eval s=v) (hown:w.ownsRow base 5 1 v n (z00 xs))
    (b off m c:Nat) (l:List Int) (hx:a.eval x=.slice (some ⟨b,off,none⟩) m c) (hB:Bytes w (some ⟨b,off,none⟩) m l)
    (hm:0<m) (hb:n+m≤140737488355328) (hbase:base≤w.heap.size) (N:Nat) (hN:n+m=N)
    (h:∀ g cap w',w'.ownsRow base 5 1 (.slice (some ⟨g,0,none⟩) N cap) N (z00 (xs ++ l))→w.grownBy w' v.ownBlock→(v.ownBlock=some g∨g=w.heap.size)→g<w'.heap.size→K (a.put o.dst (.slice (some ⟨g,0,none⟩) N cap)) w'):if Region.wanted o (yielded ops a.tmps)=true then Oper.wp Tryz.prog o a w K Q else E:=by
  subst hN
  obtain ⟨i,hi,hz,hs1,hby⟩:=z18
  obtain ⟨b',off',e,_,hc⟩:=hB.2.1 hm
  simp only [Option.some.injEq,Addr.mk.injEq] at e
  obtain ⟨rfl,rfl,_⟩:=e
  refine step_append_lies w hgd s x 53 ho base 5 i (.int .u8 0) 1 1 Tryz.underlying53 hi hz hs1 hby rfl (by decide) v n (z00 xs) hs hown ⟨b,off,none⟩ m c (z00 l) hx (by simp [z00,hB.1]) ?_ (z1l l) hm (by simp only [maxLen];omega) (by omega) hbase w.heap.size rfl ?_
  · intro j u hj
    have hjl:j<l.length:=by
      have:=(List.getElem?_eq_some_iff.1 hj).1
      simpa [z00] using this
    rw [z0t l j hjl] at hj
    rw [z0L,hc j (by rw [← hB.1];exact hjl)]
    exact hj
  · intro g cap w' h1 h2 h3 h4
    rw [← z0r] at h1
    exact h g cap w' h1 h2 h3 h4
theorem zcs {w:World} {base n c:Nat} {a:Option Addr} {l:List Nat} (h:w.ownsRow base 5 1 (.slice a n c) n (z00 (INTS l))) (hl:Small8 l):Text w a n l:=Text.of_bytes (z1t h (z1N hl)).1
theorem zdZ {w:World} {base n c s:Nat} {a:Option Addr} {t:TypeId} {xs:List Value} (h:w.ownsRow base t s (.slice a n c) n xs):a=none→c=0:=fun ha=>by
  rcases h.2 with ⟨hv,_⟩ | ⟨g,cap,cur,hv,_⟩
  · simp at hv
    exact hv.2.2
  · subst ha
    simp at hv
theorem zba {w:World} {a:Option Addr} {n c:Nat} {l:List Nat} (hA:Text w a n l) (hnc:n≤c) (hx:∀ x,a=some x→x.block<w.heap.size):Parts (w.alloc (.cells #[.slice a n c] 53)) (some ⟨w.heap.size,0,none⟩) 1 [⟨a,n,c,l⟩]:=
  ⟨rfl,fun _=>⟨w.heap.size,0,rfl,by simp,fun i p hp=>by
      have hi:i<1:=(List.getElem?_eq_some_iff.1 hp).1
      obtain rfl:i=0:=by omega
      simp only [List.getElem?_cons_zero,Option.some.injEq] at hp
      subst hp
      rw [World.cell?_alloc_at _ _ _ _ rfl]
      rfl⟩,fun p hp=>by
      simp only [List.mem_singleton] at hp
      subst hp
      exact ⟨hA.below ((Below.refl _ _).alloc (Nat.le_refl _) _),hnc,fun x e=>by have:=hx x e;simp;omega⟩⟩
theorem z4y {w:World} {B n c:Nat} {a:Option Addr} {l:List Nat} (h:w.ownsRow B 5 1 (.slice a n c) n (z00 (INTS l))) (hs:Small8 l):Parts (w.alloc (.cells #[.slice a n c] 53)) (some ⟨w.heap.size,0,none⟩) 1 [⟨a,n,c,l⟩]∧(a=none→c=0):=by
  refine ⟨zba (zcs h hs) ?_ (fun x e=>?_),zdZ h⟩
  · exact (z1t h (z1N hs)).2
  · subst e
    rcases h.2 with ⟨e,_⟩ | ⟨g,c2,cur,e,_,hg,_⟩
    · simp at e
    · simp only [Value.slice.injEq,Option.some.injEq] at e
      rw [e.1]
      exact (Array.getElem?_eq_some_iff.1 hg).1
theorem z3V (a:Option Addr) (n c:Nat) (l:List Nat):JOIN [⟨a,n,c,l⟩]=l:=by simp [JOIN]
theorem z56 {x:Nat} {l:List Nat} (hx:x<256) (h:Small8 l):Small8 (x :: l):=fun y hy=>by
  rcases List.mem_cons.1 hy with rfl | hy
  · exact hx
  · exact h y hy
theorem z62 {l k:List Nat} (h1:Small8 l) (h2:Small8 k):Small8 (l ++ k):=fun y hy=>by
  rcases List.mem_append.1 hy with hy | hy
  · exact h1 y hy
  · exact h2 y hy
theorem z2A {f:Nat→Nat} (h:∀ i,f i<256):Small8 ((List.range 32).map f):=fun y hy=>by
  obtain ⟨i,_,rfl⟩:=List.mem_map.1 hy
  exact h i
theorem ze0 {w:World} (d:Int) {B n c:Nat} {a:Option Addr} {l:List Nat} (h:w.ownsRow B 5 1 (.slice a n c) n (z00 (INTS l))) (hs:Small8 l) (hl:l.length<5000) (hT:Tabled w):
    Calls Tryz.prog 88 #[.int .i64 d,.slice (some ⟨w.heap.size,0,none⟩) 1 1] (w.alloc (.cells #[.slice a n c] 53)) fun e w'=>e=.returned (.agg (UARR .u8 32 (z0E d l)))∧Below (w.alloc (.cells #[.slice a n c] 53)).heap.size (w.alloc (.cells #[.slice a n c] 53)) w':=by
  have:=zgy d _ 1 1 _ _ (z4y h hs).1 (hT.below ((Below.refl _ _).alloc (Nat.le_refl _) _)) (by rw [z3V];omega) (by decide)
  rw [z3V] at this
  exact this
theorem zfs (d:Int) (l r:Nat→Nat) (hl:∀ i,l i<256) (hr:∀ i,r i<256) (w:World) (hT:Tabled w):Calls Tryz.prog 53 #[.int .i64 d,.agg (UARR .u8 32 l),.agg (UARR .u8 32 r)] w fun e w'=>e=.returned (.agg (UARR .u8 32 (z0E d (1 :: ((List.range 32).map l ++ (List.range 32).map r)))))∧Below w.heap.size w w':=by
  have hz:=z1h
  have ct:=fun W=>z9i l r hl hr W
  have H:Aside ((∀ i,l i<256)∧(∀ i,r i<256)∧Tabled w):=⟨hl,hr,hT⟩
  obtain ⟨W,zb,lb,rb,hW,hzb,hlb,hrb,R,h4,h5⟩:∃ W zb lb rb,W=((w.alloc (.cells (UARR .u8 32 l) 35)).alloc (.cells (UARR .u8 32 r) 35)).alloc (.cells (UARR .u8 32 fun _=>0) 35)∧zb=w.heap.size+1+1∧lb=w.heap.size∧rb=w.heap.size+1∧Aside (Has W zb (UARR .u8 32 fun _=>0) 35∧Below w.heap.size w W∧w.heap.size≤zb)∧W.rangeAt lb 0 (z05 .u8 32 l)∧W.rangeAt rb 0 (z05 .u8 32 r):=by
    refine ⟨_,_,_,_,rfl,rfl,rfl,rfl,⟨Has.at _ _ _ (by simp),(((Below.refl _ _).alloc (Nat.le_refl _) _).alloc (by simp) _).alloc (by simp;omega) _,by omega⟩,(((Has.new w _ _).alloc _).alloc _).whole,((Has.at _ _ _ (by simp)).alloc _).whole⟩
  clear hl hr hT
  go_enter Tryz.func53,Tryz.ntmps53
  go_wp2_with (first
    | (rw [← hW];refine wpList_load_mid rfl 35 (.tmp 4) rfl w.heap.size 0 rfl (z05 .u8 32 l) (.array 32 5) (by rw [← hlb];exact h4) Tryz.underlying35 rfl (by rw [z09];exact z0H) ?_;rw [← z0I])
    | (refine wpList_load_mid rfl 35 (.tmp 5) rfl (w.heap.size+1) 0 rfl (z05 .u8 32 r) (.array 32 5) (by rw [← hrb];exact h5) Tryz.underlying35 rfl (by rw [z09];exact z0H) ?_;rw [← z0I]))
  rw [← hzb]
  refine (ct _).mono ?_
  rintro e w2 ⟨a',c',rfl,hown,hb⟩
  rw [← hW] at hown hb
  clear ct h4 h5 hW hzb hlb hrb
  have S:Aside (Has w2 zb (UARR .u8 32 fun _=>0) 35∧Below w.heap.size w w2):=⟨R.out.1.keep hb,R.out.2.1.trans (hb.mono R.out.2.1.size)⟩
  have cs:=ze0 d hown (z56 (by decide) (z62 (z2A H.out.1) (z2A H.out.2.1))) (by simp) (H.out.2.2.below S.out.2)
  have Z:Aside (w.heap.size≤zb):=R.out.2.2
  clear hown hb R
  go_wp2_with fail
  refine cs.mono ?_
  rintro e w3 ⟨rfl,hb3⟩
  have hb4:Below w2.heap.size w2 w3:=((Below.refl _ _).alloc (Nat.le_refl _) _).trans (hb3.mono (by simp))
  have S2:Aside (Has w3 zb (UARR .u8 32 fun _=>0) 35∧Below w.heap.size w w3):=⟨S.out.1.keep hb4,S.out.2.trans (hb4.mono S.out.2.size)⟩
  clear cs hb3 hb4 S
  go_wp2_with (first
    | (refine wpList_store_row rfl 35 _ _ rfl _ _ rfl rfl _ _ S2.out.1 (z04 _) (by rw [z03,z03]) (z0j _ _ _) ?_))
  refine bodyPost_ret (v:=.agg (UARR .u8 32 (z0E d (1 :: ((List.range 32).map l ++ (List.range 32).map r))))) ?_ rfl ⟨rfl,z0d S2.out.2 Z.out _⟩
  exact results_cell_row rfl _ _ zb 35 _ (0,0) _ rfl (S2.out.1.row _) Tryz.underlying35 rfl (z04 _)
end Go.Proofs.YtnmalbngdhjhjaaGreatDoor.HX

namespace Go.Proofs.YtnmalbngdhjhjaaGreatDoor.HX
open Go.RowKit
set_option maxRecDepth 100000
def z7B (d:Int) (l r:Nat→Nat):Nat→Nat:=HX.z0E d (1 :: ((List.range 32).map l ++ (List.range 32).map r))
theorem ze1 (d:Int) (l r:Nat→Nat) (i:Nat):z7B d l r i<256:=HX.z2Q d _ _ i
def VAL (d:Int) (f:Nat→Nat→Nat):Nat→Nat→Nat→Nat
  | 0,k=>f k
  | h+1,k=>z7B d (VAL d f h (2*k)) (VAL d f h (2*k+1))
theorem z4z {d:Int} {f:Nat→Nat→Nat} {n:Nat} (hf:∀ k,k<n→∀ i,f k i<256):∀ (h k:Nat),(k+1)*2 ^ h≤n→∀ i,VAL d f h k i<256
  | 0,k,hk,i=>hf k (by simp at hk;omega) i
  | h+1,k,_,i=>ze1 _ _ _ i
theorem z1W {d:Int} {f g:Nat→Nat→Nat} {n:Nat} (hfg:∀ k,k<n→f k=g k):∀ (h k:Nat),(k+1)*2 ^ h≤n→VAL d f h k=VAL d g h k
  | 0,k,hk=>hfg k (by simp at hk;omega)
  | h+1,k,hk=>by
    have e:(k+1)*2 ^ (h+1)=(2*k+1+1)*2 ^ h:=by rw [Nat.pow_succ,show 2*k+1+1=(k+1)*2 by omega,Nat.mul_assoc,Nat.mul_comm (2 ^ h) 2]
    have h2:(2*k+1+1)*2 ^ h≤n:=by omega
    have h1:(2*k+1)*2 ^ h≤n:=Nat.le_trans (Nat.mul_le_mul_right _ (by omega)) h2
    rw [VAL,VAL,z1W hfg h (2*k) h1,z1W hfg h (2*k+1) h2]
def z0B (f:Nat→Nat→Nat) (n:Nat) (x:Nat→Nat):Nat→Nat→Nat:=fun k=>if k=n then x else f k
theorem z88 (f:Nat→Nat→Nat) (n:Nat) (x:Nat→Nat):z0B f n x n=x:=by simp [z0B]
theorem zct (f:Nat→Nat→Nat) (n:Nat) (x:Nat→Nat) {k:Nat} (h:k<n):z0B f n x k=f k:=by
  unfold z0B
  rw [if_neg (by omega)]
def ONES (n j:Nat):Prop:=∀ i,i<j→n / 2 ^ i % 2=1
theorem ONES.next {n j:Nat} (h:ONES n j) (hj:n / 2 ^ j % 2=1):ONES n (j+1):=fun i hi=>by
  by_cases e:i=j
  · subst e;exact hj
  · exact h i (by omega)
theorem z10 (n j:Nat):n / 2 ^ (j+1)=n / 2 ^ j / 2:=by rw [Nat.pow_succ,Nat.div_div_eq_div_mul]
theorem ONES.place {n:Nat}:∀ {j:Nat},ONES n j→PLC j (n / 2 ^ j)=z01 n+j
  | 0,_=>by rw [Nat.pow_zero,Nat.div_one,z80];rfl
  | j+1,h=>by
    have h1:=h j (by omega)
    have ih:=ONES.place (n:=n) (j:=j) fun i hi=>h i (by omega)
    have e:n / 2 ^ j=2*(n / 2 ^ (j+1))+1:=by rw [z10];omega
    rw [z2Y,← e,ih]
    omega
theorem ONES.span {n:Nat}:∀ {j:Nat},ONES n j→(n / 2 ^ j+1)*2 ^ j=n+1
  | 0,_=>by simp
  | j+1,h=>by
    have h1:=h j (by omega)
    have ih:=ONES.span (n:=n) (j:=j) fun i hi=>h i (by omega)
    have e:n / 2 ^ j=2*(n / 2 ^ (j+1))+1:=by rw [z10];omega
    rw [← ih,e]
    generalize n / 2 ^ (j+1)=q
    rw [Nat.pow_succ,show 2*q+1+1=(q+1)*2 by omega,Nat.mul_assoc,Nat.mul_comm (2 ^ j) 2]
theorem ONES.of_span {n h k:Nat} (e:(k+1)*2 ^ h=n+1):k=n / 2 ^ h∧ONES n h:=by
  have hp:0<2 ^ h:=Nat.two_pow_pos h
  have ek:n=k*2 ^ h+(2 ^ h - 1):=by
    have:(k+1)*2 ^ h=k*2 ^ h+2 ^ h:=by rw [Nat.add_mul,Nat.one_mul]
    omega
  refine ⟨?_,fun i hi=>?_⟩
  · rw [ek,Nat.mul_comm k,Nat.mul_add_div hp,Nat.div_eq_of_lt (by omega),Nat.add_zero]
  · obtain ⟨m,rfl⟩:∃ m,h=i+1+m:=⟨h - (i+1),by omega⟩
    have hpi:0<2 ^ i:=Nat.two_pow_pos i
    have e2:n+1=((k+1)*2 ^ m*2)*2 ^ i:=by
      rw [← e,Nat.pow_add,Nat.pow_succ,Nat.mul_assoc (k+1),Nat.mul_assoc (k+1)]
      congr 1
      rw [Nat.mul_comm (2 ^ i*2),← Nat.mul_assoc,Nat.mul_assoc (2 ^ m),Nat.mul_assoc (2 ^ m),Nat.mul_comm 2 (2 ^ i)]
    obtain ⟨q,hq⟩:∃ q,(k+1)*2 ^ m=q+1:=⟨(k+1)*2 ^ m - 1,by have:0<(k+1)*2 ^ m:=Nat.mul_pos (by omega) (Nat.two_pow_pos m);omega⟩
    rw [hq] at e2
    have e3:n=(2*q+1)*2 ^ i+(2 ^ i - 1):=by
      have:(q+1)*2*2 ^ i=(2*q+1)*2 ^ i+2 ^ i:=by rw [show (q+1)*2=2*q+1+1 by omega,Nat.add_mul,Nat.one_mul]
      omega
    have e4:n / 2 ^ i=2*q+1:=by
      rw [e3,Nat.mul_comm (2*q+1),Nat.mul_add_div hpi,Nat.div_eq_of_lt (by omega),Nat.add_zero]
    omega
theorem z89 (n:Nat):∃ t,ONES n t∧n / 2 ^ t % 2=0:=by
  suffices h:∀ m j,ONES n j→n≤m+j→∃ t,ONES n t∧n / 2 ^ t % 2=0 from h n 0 (fun i hi=>by omega) (by omega)
  intro m
  induction m with
  | zero=>
    intro j hj hn
    refine ⟨j,hj,?_⟩
    have:n<2 ^ j:=Nat.lt_of_le_of_lt (by omega) (Nat.lt_two_pow_self (n:=j))
    rw [Nat.div_eq_of_lt this]
  | succ m ih=>
    intro j hj hn
    by_cases e:n / 2 ^ j % 2=0
    · exact ⟨j,hj,e⟩
    · exact ih (j+1) (hj.next (by omega)) (by omega)
theorem ONES.nodes {n t:Nat} (h:ONES n t) (ht:n / 2 ^ t % 2=0):z01 (n+1)=z01 n+t+1:=by
  have hp:0<2 ^ t:=Nat.two_pow_pos t
  obtain ⟨q,hq⟩:∃ q,n / 2 ^ t=2*q:=⟨n / 2 ^ t / 2,by omega⟩
  have hs:=h.span
  rw [hq] at hs
  have e1:PC (n+1)=PC q+1:=by rw [← hs,z2h,z3w]
  have e2:n=(2*q)*2 ^ t+(2 ^ t - 1):=by
    have:(2*q+1)*2 ^ t=2*q*2 ^ t+2 ^ t:=by rw [Nat.add_mul,Nat.one_mul]
    omega
  have e3:PC n=PC q+t:=by
    rw [e2,z4v t (2*q) (2 ^ t - 1) (by omega),z4S,z6w]
  have h1:=z0A n
  have h2:=z0A (n+1)
  omega
theorem ONES.lt {n t:Nat} (h:ONES n t):t≤n:=by
  have h1:=h.span
  have h2:t<2 ^ t:=Nat.lt_two_pow_self
  have h3:1*2 ^ t≤(n / 2 ^ t+1)*2 ^ t:=Nat.mul_le_mul_right _ (Nat.le_add_left 1 _)
  generalize n / 2 ^ t=q at *
  omega
theorem z3h {n h k:Nat} (hk:(k+1)*2 ^ h≤n):PLC h k<z01 n:=by
  have h1:=z5p h k
  have h2:=z6x h k
  obtain ⟨m,hm⟩:∃ m,(k+1)*2 ^ h=m+1:=⟨(k+1)*2 ^ h - 1,by omega⟩
  rw [hm,Nat.add_sub_cancel] at h1
  have h3:z01 (m+1)≤z01 n:=z3T (by omega)
  have ho:ONES m h:=(ONES.of_span hm).2
  obtain ⟨t,ht1,ht2⟩:∃ t,ONES m t∧m / 2 ^ t % 2=0:=z89 m
  have h4:=ht1.nodes ht2
  have h5:h≤t:=by
    rcases Nat.lt_or_ge t h with hlt | hge
    · have:=ho t hlt
      omega
    · exact hge
  omega
end Go.Proofs.YtnmalbngdhjhjaaGreatDoor.HX

namespace Go.Proofs.YtnmalbngdhjhjaaGreatDoor.HX
open Go.RowKit
set_option maxRecDepth 100000
theorem STORE.foot_lt {w:World} {B g log len alive N b:Nat} {C:z02} (hS:STORE w B g log len alive N C) (hb:FOOT w g C b):b<w.heap.size:=by
  rcases hb with e | ⟨k,gc,rs,e,h⟩
  · obtain ⟨mv,m1,m2,m3⟩:=hS.map
    rw [e] at m1
    have hm:mv=some b:=by cases Option.some.inj m1;rfl
    obtain ⟨_,n,_,hc⟩:=m3 b hm
    exact hc.lt
  · obtain ⟨⟨_,z1⟩,z2,z3⟩:=(hS.chunk k gc rs e).2.1.kinds
    rcases h with rfl | ⟨v,hv,h⟩ | ⟨r,hr,rfl⟩
    · exact (Array.getElem?_eq_some_iff.1 z1).1
    · obtain ⟨_,hc⟩:=z2 v b hv h
      exact (Array.getElem?_eq_some_iff.1 hc).1
    · obtain ⟨_,hc⟩:=z3 r hr
      exact (Array.getElem?_eq_some_iff.1 hc).1
theorem STORE.foot_below {w w':World} {B g log len alive N b:Nat} {C:z02} (hS:STORE w B g log len alive N C) (hb:Below w.heap.size w w') (hf:FOOT w' g C b):FOOT w g C b:=by
  have hg:=hS.lt
  have cell:∀ i,w'.cell? ⟨g,i,none⟩=w.cell? ⟨g,i,none⟩:=fun i=>hb.cell (by exact hg)
  rcases hf with h | ⟨k,gc,rs,e,h⟩
  · left;rw [← cell 3];exact h
  · refine .inr ⟨k,gc,rs,e,?_⟩
    rcases h with h | ⟨v,hv,h⟩ | h
    · exact .inl h
    · obtain ⟨x,hx,_⟩:=(hS.chunk k gc rs e).2.1.box
      exact .inr (.inl ⟨v,by rw [← hv];exact (hb.cell (by exact hx.lt)).symm,h⟩)
    · exact .inr (.inr h)
structure TSTEP (w w':World) (g:Nat) (C C':z02):Prop where
  foot:∀ b,FOOT w' g C' b→FOOT w g C b∨w.heap.size≤b
  same:∀ b,b<w.heap.size→b≠g→¬ FOOT w g C b→w'.heap[b]?=w.heap[b]?
  size:w.heap.size≤w'.heap.size
  pin:w'.cell? ⟨g,4,none⟩=w.cell? ⟨g,4,none⟩
theorem STEP.tree {w w':World} {g:Nat} {C C':z02} (h:STEP w w' g C C'):TSTEP w w' g C C':=⟨h.foot,h.same,h.size,h.pins 4 (by decide)⟩
theorem TSTEP.trans {w w' w'':World} {g:Nat} {C C' C'':z02} (h:TSTEP w w' g C C') (h':TSTEP w' w'' g C' C''):TSTEP w w'' g C C'':=by
  have hs:=h.size
  refine ⟨fun b hb=>?_,fun b hb hg hf=>?_,Nat.le_trans h.size h'.size,h'.pin.trans h.pin⟩
  · rcases h'.foot b hb with h1 | h1
    · exact h.foot b h1
    · exact .inr (by omega)
  · refine (h'.same b (by omega) hg (fun hf'=>?_)).trans (h.same b hb hg hf)
    rcases h.foot b hf' with h1 | h1
    · exact hf h1
    · omega
theorem STORE.side {w:World} {B g log len alive N:Nat} {C:z02} (hS:STORE w B g log len alive N C) (i0:Nat) (hi0:5≤i0) (u:Value):STORE (w.setCell ⟨g,i0,none⟩ u) B g log len alive N C∧TSTEP w (w.setCell ⟨g,i0,none⟩ u) g C C:=by
  obtain ⟨cs,t,fr,k1,k2,k3,k4⟩:=hS.kind
  obtain ⟨w2,hw2⟩:∃ w2,w.setCell ⟨g,i0,none⟩ u=w2:=⟨_,rfl⟩
  rw [hw2]
  have hset:∀ b,b≠g→w2.heap[b]?=w.heap[b]?:=fun b hb=>by rw [← hw2];exact Below.heap_setCell _ _ _ b (by exact hb)
  have cell:∀ i,i≠i0→w2.cell? ⟨g,i,none⟩=w.cell? ⟨g,i,none⟩:=fun i hi=>by rw [← hw2,z1H (fun e=>hi e.symm)]
  have hch:∀ k gc rk,C k=some (gc,rk)→gc≠g∧(∀ v x,w.cell? ⟨gc,0,none⟩=some v→v.ownBlock=some x→x≠g)∧∀ r∈rk,r.gh≠g:=fun k gc rk e=>by
    obtain ⟨⟨_,z1⟩,z2,z3⟩:=(hS.chunk k gc rk e).2.1.kinds
    refine ⟨fun e=>z08 k1 z1 k2 e.symm,fun v x hv hx=>?_,fun r hr=>?_⟩
    · obtain ⟨_,hc⟩:=z2 v x hv hx
      exact fun e=>z08 k1 hc k3 e.symm
    · obtain ⟨_,hc⟩:=z3 r hr
      exact fun e=>z08 k1 hc k4 e.symm
  have hcc:∀ k gc rk,C k=some (gc,rk)→w2.cell? ⟨gc,0,none⟩=w.cell? ⟨gc,0,none⟩:=fun k gc rk e=>World.cell?_of_block (w:=w) (by exact hset gc (hch k gc rk e).1)
  refine ⟨⟨hS.small,hS.short,(cell 0 (by omega)).trans hS.c0,?_,(cell 2 (by omega)).trans hS.c2,fun i hi=>?_,?_,?_,?_,?_⟩,?_⟩
  · exact (cell 1 (by omega)).trans hS.c1
  · rw [← hw2,World.frozen?_setCell]
    exact hS.live i hi
  · obtain ⟨cs',h1⟩:=z2e (i:=i0) k1 u
    exact ⟨cs',t,fr,by rw [← hw2];exact h1,k2,k3,k4⟩
  · obtain ⟨mv,m1,m2,m3⟩:=hS.map
    refine ⟨mv,(cell 3 (by omega)).trans m1,m2,fun b e=>?_⟩
    obtain ⟨c1,n,c2,c3⟩:=m3 b e
    refine ⟨c1,n,c2,c3.at (hset b (fun e=>?_))⟩
    obtain ⟨D,⟨es,clock,h1,_⟩,_⟩:=c3
    rw [e,k1] at h1
    cases h1
  · intro k gc rk e
    obtain ⟨b1,b2,b3⟩:=hS.chunk k gc rk e
    obtain ⟨d1,d2,d3⟩:=hch k gc rk e
    exact ⟨b1,b2.at (hset _ d1) (fun v x hv hx=>hset _ (d2 v x hv hx)) (fun r hr=>hset _ (d3 r hr)),b3⟩
  · intro k k' gc gc' rs rs' hne e e'
    obtain ⟨o1,o2,o3⟩:=hS.one k k' gc gc' rs rs' hne e e'
    exact ⟨o1,o2,fun v v' hv hv'=>o3 v v' (by rw [← hcc k gc rs e];exact hv) (by rw [← hcc k' gc' rs' e'];exact hv')⟩
  · refine ⟨fun b h=>.inl ?_,fun b _ hbg _=>hset b hbg,by rw [← hw2];simp,cell 4 (by omega)⟩
    rcases h with h | ⟨k,gc,rs,e,h⟩
    · left;rw [← cell 3 (by omega)];exact h
    · refine .inr ⟨k,gc,rs,e,?_⟩
      rcases h with h | ⟨v,hv,h⟩ | h
      · exact .inl h
      · exact .inr (.inl ⟨v,by rw [← hcc k gc rs e];exact hv,h⟩)
      · exact .inr (.inr h)
end Go.Proofs.YtnmalbngdhjhjaaGreatDoor.HX

namespace Go.Proofs.YtnmalbngdhjhjaaGreatDoor
open Go.RowKit
theorem zcu:∀ X:Nat,X≠0→∃ t q,X=2 ^ t*(2*q+1):=fun X=>by
  induction X using Nat.strongRecOn with
  | _ X ih=>
    intro h
    by_cases ho:X % 2=1
    · exact ⟨0,X / 2,by omega⟩
    · obtain ⟨t,q,e⟩:=ih (X / 2) (by omega) (by omega)
      refine ⟨t+1,q,?_⟩
      rw [Nat.pow_succ,Nat.mul_comm (2 ^ t) 2,Nat.mul_assoc,← e]
      omega
theorem zft {q s:Nat} (h:2*q+1<2 ^ s):(2*q+1) &&& (2 ^ s - (2*q+1))=1:=by
  apply Nat.eq_of_testBit_eq
  intro i
  rw [Nat.testBit_and,Nat.testBit_two_pow_sub_succ (by omega)]
  cases i with
  | zero=>
    have hs:0<s:=by
      rcases Nat.eq_zero_or_pos s with h0 | h0
      · subst h0
        simp at h
      · exact h0
    simp [Nat.testBit_zero,hs]
  | succ i=>
    rw [Nat.testBit_succ,Nat.testBit_succ,Nat.testBit_succ,show (2*q+1) / 2=q by omega,show 2*q / 2=q by omega]
    simp
    intro h1 _
    exact h1
theorem zaf {X t q:Nat} (hX:X<2 ^ 64) (e:X=2 ^ t*(2*q+1)):X &&& (2 ^ 64 - X)=2 ^ t∧t<64:=by
  have hp:=Nat.two_pow_pos t
  have ht:t<64:=by
    rcases Nat.lt_or_ge t 64 with h | h
    · exact h
    · have h1:2 ^ 64≤2 ^ t:=Nat.pow_le_pow_right (by decide) h
      have h2:2 ^ t*1≤2 ^ t*(2*q+1):=Nat.mul_le_mul_left _ (by omega)
      omega
  have h64:(2:Nat) ^ 64=2 ^ t*2 ^ (64 - t):=by rw [← Nat.pow_add,show t+(64 - t)=64 by omega]
  have hq:2*q+1<2 ^ (64 - t):=by
    rw [e,h64] at hX
    exact Nat.lt_of_mul_lt_mul_left hX
  refine ⟨?_,ht⟩
  rw [e,h64,← Nat.mul_sub,Nat.mul_comm,Nat.mul_comm (2 ^ t),← Nat.shiftLeft_eq,← Nat.shiftLeft_eq,← Nat.shiftLeft_and_distrib,zft hq,Nat.shiftLeft_eq,Nat.one_mul]
end Go.Proofs.YtnmalbngdhjhjaaGreatDoor

namespace Go.Proofs.YtnmalbngdhjhjaaGreatDoor
open Go.RowKit
def TAB:List Nat:=[0,1,56,2,57,49,28,3,61,58,42,50,38,29,17,4,62,47,59,36,45,43,51,22,53,39,33,30,24,18,12,5,63,55,48,27,60,41,37,16,46,35,44,21,52,32,23,11,54,26,40,15,34,20,31,10,25,14,19,9,13,8,7,6]
def Tabled (w:World):Prop:=∀ i,i<64→w.cell? ⟨2,i,none⟩=some (.int .u8 ((TAB.getD i 0:Nat):Int))
theorem zfu:∀ t,t<64→TAB.getD (2 ^ t*285870213051353865 % 2 ^ 64 / 2 ^ 58) 0=t:=by decide
theorem zgz (x b p i t:Int) (w:World) (h0:(x == 0)=false) (e1:bits .and .u64 x (IntKind.u64.wrap (-x))=b) (e2:IntKind.u64.wrap (b*285870213051353865)=p) (hi:p / 288230376151711744=i) (hi1:0≤i) (hi2:i<64)
    (hc:w.cell? ⟨2,i.toNat,none⟩=some (.int .u8 t)) (ht:Aside (wrap64 t=t)):Calls Tryz.prog 244 #[.int .u64 x] w fun e w'=>e=.returned (.int .i64 t)∧w=w':=by
  go_enter Tryz.func244,Tryz.ntmps244
  go_wp2
  go_ret
  refine ⟨?_,rfl⟩
  rw [show (Value.int .i64 t)=.int .i64 (wrap64 t) by rw [ht.out]]
  rfl
theorem zhe (X t q:Nat) (hX:X<2 ^ 64) (e:X=2 ^ t*(2*q+1)) (w:World) (hT:Tabled w):Calls Tryz.prog 244 #[.int .u64 (X:Int)] w fun e w'=>e=.returned (.int .i64 (t:Int))∧w=w':=by
  obtain ⟨ha,ht⟩:=zaf hX e
  have hX0:0<X:=by
    rw [e]
    exact Nat.mul_pos (Nat.two_pow_pos t) (by omega)
  have hm:IntKind.u64.wrap (-(X:Int))=((2 ^ 64 - X:Nat):Int):=by rw [z0a];omega
  have hb:bits .and .u64 (X:Int) (IntKind.u64.wrap (-(X:Int)))=((2 ^ t:Nat):Int):=by rw [hm,z4h hX (by omega),ha]
  have hp:IntKind.u64.wrap (((2 ^ t:Nat):Int)*285870213051353865)=((2 ^ t*285870213051353865 % 2 ^ 64:Nat):Int):=by
    rw [z0a]
    generalize 2 ^ t=u
    omega
  have hl:2 ^ t*285870213051353865 % 2 ^ 64<2 ^ 64:=Nat.mod_lt _ (by decide)
  have hi:2 ^ t*285870213051353865 % 2 ^ 64 / 2 ^ 58<64:=Nat.div_lt_of_lt_mul (by omega)
  have hc:=hT _ hi
  rw [zfu t ht] at hc
  refine zgz X _ _ ((2 ^ t*285870213051353865 % 2 ^ 64 / 2 ^ 58:Nat):Int) t w (by simp;omega) hb hp ?_ (by omega) (by omega) (by rw [Int.toNat_natCast];exact hc) (by unfold Aside wrap64;omega)
  generalize 2 ^ t*285870213051353865 % 2 ^ 64=u
  omega
theorem zfv (x r:Int) (w:World) (c:Calls Tryz.prog 244 #[.int .u64 x] w fun e w'=>e=.returned (.int .i64 r)∧w=w'):
    Calls Tryz.prog 218 #[.int .u64 x] w fun e w'=>e=.returned (.int .i64 r)∧w=w':=by
  go_enter Tryz.func218,Tryz.ntmps218
  go_wp2_with fail
  refine c.mono ?_
  rintro e w' ⟨rfl,rfl⟩
  go_wp2
  go_ret
  exact ⟨rfl,rfl⟩
end Go.Proofs.YtnmalbngdhjhjaaGreatDoor
