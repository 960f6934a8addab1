/- Texts of SpanVerifies, one behind the other: HashPairTexts, HashRootText, HashEq, HashSumPlain, VerifyHash. -/
import Derived.ChangeKeysEq
import Derived.Deep.RegionHeldLaw
import Derived.Deep.RegionHeld3
import Derived.Test.YthdpkaiieomdoaaGreatDoorSpanVerifiesP10
namespace Go.Proofs.YthdpkaiieomdoaaGreatDoor.HX
open Go.RowKit
set_option maxRecDepth 100000
theorem z0f {w:World} {base base':Nat} {t:TypeId} {s:Nat} {v:Value} {n:Nat} {xs:List Value} (h:w.ownsRow base t s v n xs) (hb:base'≤base):w.ownsRow base' t s v n xs:=
  ⟨h.1,h.2.imp id fun ⟨g,c,cur,a,b,r⟩=>⟨g,c,cur,a,Nat.le_trans hb b,r⟩⟩
theorem z1u (b:Nat) (w:World):(Instr.sliceAt 23 (.pointer (some ⟨b,0,none⟩)) none none none).run Tryz.prog w=.ok (.slice (some ⟨b,0,none⟩) 32 32) w:=by
  have hn:Tryz.prog.arrayLen 23=32:=by kernel_rfl
  rw [run_sliceAt_array_all w 23 ⟨b,0,none⟩ (by kernel_rfl),hn]
  have he:Tryz.prog.elem 23=5:=by kernel_rfl
  obtain ⟨i8,hi,h8⟩:=Option.map_eq_some_iff.1 z0I
  simp only [Prod.mk.injEq] at h8
  rw [he]
  simp [sizeOf,typeInfo,hi,h8.2.1,slicedAt,Addr.add]
theorem Has.text {w:World} {g:Nat} {f:Nat→Nat} {t:TypeId} (h:Has w g (UARR .u8 32 f) t) (hf:∀ i,f i<256):Text w (some ⟨g,0,none⟩) 32 ((List.range 32).map f):=
  ⟨by simp,fun _=>⟨g,0,rfl,h.lt,fun i hi=>by rw [Nat.zero_add,h.cell,z07 _ _ _ _ hi,List.getD_eq_getElem?_getD,List.getElem?_map,List.getElem?_range hi];rfl⟩,fun x hx=>by obtain ⟨i,_,rfl⟩:=List.mem_map.1 hx;exact hf i⟩
theorem z6B {w:World} {l r:Nat→Nat} {g h:Nat} {t u:TypeId} (hl:∀ i,l i<256) (hr:∀ i,r i<256) (h1:Has w g (UARR .u8 32 l) t) (h2:Has w h (UARR .u8 32 r) u):Parts (w.alloc (.cells #[.slice (some ⟨g,0,none⟩) 32 32,.slice (some ⟨h,0,none⟩) 32 32] 26)) (some ⟨w.heap.size,0,none⟩) 2 [⟨some ⟨g,0,none⟩,32,32,(List.range 32).map l⟩,⟨some ⟨h,0,none⟩,32,32,(List.range 32).map r⟩]:=
  ⟨rfl,fun _=>⟨w.heap.size,0,rfl,by simp,fun i p hp=>by
    have hi:i<2:=(List.getElem?_eq_some_iff.1 hp).1
    rw [World.cell?_alloc_at _ _ _ _ rfl]
    have h2:i=0∨i=1:=by omega
    rcases h2 with rfl | rfl <;> (simp at hp;subst hp;rfl)⟩,fun p hp=>by
    simp only [List.mem_cons,List.not_mem_nil,or_false] at hp
    rcases hp with rfl | rfl
    · exact ⟨(h1.alloc _).text hl,Nat.le_refl _,fun x e=>by simp only [Option.some.injEq] at e;rw [← e];exact (h1.alloc _).lt⟩
    · exact ⟨(h2.alloc _).text hr,Nat.le_refl _,fun x e=>by simp only [Option.some.injEq] at e;rw [← e];exact (h2.alloc _).lt⟩⟩
theorem z3D (l r:Nat→Nat) (g h:Nat):JOIN [⟨some ⟨g,0,none⟩,32,32,(List.range 32).map l⟩,⟨some ⟨h,0,none⟩,32,32,(List.range 32).map r⟩]=(List.range 32).map l ++ (List.range 32).map r:=by simp [JOIN]
theorem z8H (l r:Nat→Nat) (hl:∀ i,l i<256) (hr:∀ i,r i<256) (w:World):Calls Tryz.prog 85 #[.agg (UARR .u8 32 l),.agg (UARR .u8 32 r)] w fun e w'=>
    ∃ a' c',e=.returned (.slice a' 65 c')∧w'.ownsRow w.heap.size 5 1 (.slice a' 65 c') 65 (z00 (INTS (1 :: ((List.range 32).map l ++ (List.range 32).map r))))∧Below w.heap.size w w':=by
  have hs32:=z1u
  have H:Aside ((∀ i,l i<256)∧(∀ i,r i<256)):=⟨hl,hr⟩
  clear hl hr
  go_enter Tryz.func85,Tryz.ntmps85
  go_wp2_with fail
  have U:Aside (Below w.heap.size w ((w.alloc (.cells (UARR .u8 32 l) 23)).alloc (.cells (UARR .u8 32 r) 23))∧Has ((w.alloc (.cells (UARR .u8 32 l) 23)).alloc (.cells (UARR .u8 32 r) 23)) w.heap.size (UARR .u8 32 l) 23∧Has ((w.alloc (.cells (UARR .u8 32 l) 23)).alloc (.cells (UARR .u8 32 r) 23)) (w.heap.size+1) (UARR .u8 32 r) 23):=⟨((Below.refl _ _).alloc (Nat.le_refl _) _).alloc (by simp) _,(Has.new w _ _).alloc _,Has.at _ _ _ (by simp)⟩
  generalize (w.alloc (.cells (UARR .u8 32 l) 23)).alloc (.cells (UARR .u8 32 r) 23)=w1 at *
  generalize hh:w.heap.size+1=h at *
  obtain ⟨X,hX⟩:∃ X,X=(w1.alloc (.cells #[.slice (some ⟨w.heap.size,0,none⟩) 32 32,.slice (some ⟨h,0,none⟩) 32 32] 26)).drew:=⟨_,rfl⟩
  have hXs:X.heap.size=w1.heap.size+1:=by rw [hX];simp [World.drew]
  have ct:Calls Tryz.prog 124 #[.int .u8 1,.slice (some ⟨w1.heap.size,0,none⟩) 2 2] X fun e w'=>∃ a' c',e=.returned (.slice a' 65 c')∧w'.ownsRow X.heap.size 5 1 (.slice a' 65 c') 65 (z00 (INTS (1 :: ((List.range 32).map l ++ (List.range 32).map r))))∧Below X.heap.size X w':=by
    have hh1:Has w1.drew w.heap.size (UARR .u8 32 l) 23:=U.out.2.1
    have hh2:Has w1.drew h (UARR .u8 32 r) 23:=U.out.2.2
    have k:=z6c 1 (by decide) _ 2 2 _ _ (z6B H.out.1 H.out.2 hh1 hh2) (fun p hp=>by simp only [List.mem_cons,List.not_mem_nil,or_false] at hp;rcases hp with rfl | rfl <;> (intro e;cases e)) (by rw [z3D];simp) (by decide)
    have e65:((List.range 32).map l ++ (List.range 32).map r).length+1=65:=by simp
    rw [z3D,e65] at k
    rw [hX]
    exact k
  have HX:Aside (Below w.heap.size w X∧w.heap.size≤X.heap.size):=⟨by rw [hX];exact (U.out.1.alloc U.out.1.size _).drew,by rw [hXs];have:=U.out.1.size;omega⟩
  rw [hX] at ct
  go_region_held3 (fun _=>True) (trivial) (first | (go_at_call 124;refine ct.mono ?_;rintro e w5 ⟨a5,c5,rfl,hown5,hb5⟩))
  rw [← hX] at hown5 hb5
  have S:Aside (w5.ownsRow w.heap.size 5 1 (.slice a5 65 c5) 65 (z00 (INTS (1 :: ((List.range 32).map l ++ (List.range 32).map r))))∧Below w.heap.size w w5):=⟨z0f hown5 HX.out.2,HX.out.1.trans (hb5.mono HX.out.2)⟩
  clear hown5 hb5 ct
  go_wp2
  go_ret
  exact ⟨a5,c5,rfl,S.out.1,S.out.2⟩
theorem z8I (l r:Nat→Nat) (hl:∀ i,l i<256) (hr:∀ i,r i<256) (w:World):Calls Tryz.prog 159 #[.agg (UARR .u8 32 l),.agg (UARR .u8 32 r)] w fun e w'=>
    ∃ a' c',e=.returned (.slice a' 65 c')∧w'.ownsRow w.heap.size 5 1 (.slice a' 65 c') 65 (z00 (INTS (2 :: ((List.range 32).map l ++ (List.range 32).map r))))∧Below w.heap.size w w':=by
  have hs32:=z1u
  have H:Aside ((∀ i,l i<256)∧(∀ i,r i<256)):=⟨hl,hr⟩
  clear hl hr
  go_enter Tryz.func159,Tryz.ntmps159
  go_wp2_with fail
  have U:Aside (Below w.heap.size w ((w.alloc (.cells (UARR .u8 32 l) 23)).alloc (.cells (UARR .u8 32 r) 23))∧Has ((w.alloc (.cells (UARR .u8 32 l) 23)).alloc (.cells (UARR .u8 32 r) 23)) w.heap.size (UARR .u8 32 l) 23∧Has ((w.alloc (.cells (UARR .u8 32 l) 23)).alloc (.cells (UARR .u8 32 r) 23)) (w.heap.size+1) (UARR .u8 32 r) 23):=⟨((Below.refl _ _).alloc (Nat.le_refl _) _).alloc (by simp) _,(Has.new w _ _).alloc _,Has.at _ _ _ (by simp)⟩
  generalize (w.alloc (.cells (UARR .u8 32 l) 23)).alloc (.cells (UARR .u8 32 r) 23)=w1 at *
  generalize hh:w.heap.size+1=h at *
  obtain ⟨X,hX⟩:∃ X,X=(w1.alloc (.cells #[.slice (some ⟨w.heap.size,0,none⟩) 32 32,.slice (some ⟨h,0,none⟩) 32 32] 26)).drew:=⟨_,rfl⟩
  have hXs:X.heap.size=w1.heap.size+1:=by rw [hX];simp [World.drew]
  have ct:Calls Tryz.prog 124 #[.int .u8 2,.slice (some ⟨w1.heap.size,0,none⟩) 2 2] X fun e w'=>∃ a' c',e=.returned (.slice a' 65 c')∧w'.ownsRow X.heap.size 5 1 (.slice a' 65 c') 65 (z00 (INTS (2 :: ((List.range 32).map l ++ (List.range 32).map r))))∧Below X.heap.size X w':=by
    have hh1:Has w1.drew w.heap.size (UARR .u8 32 l) 23:=U.out.2.1
    have hh2:Has w1.drew h (UARR .u8 32 r) 23:=U.out.2.2
    have k:=z6c 2 (by decide) _ 2 2 _ _ (z6B H.out.1 H.out.2 hh1 hh2) (fun p hp=>by simp only [List.mem_cons,List.not_mem_nil,or_false] at hp;rcases hp with rfl | rfl <;> (intro e;cases e)) (by rw [z3D];simp) (by decide)
    have e65:((List.range 32).map l ++ (List.range 32).map r).length+1=65:=by simp
    rw [z3D,e65] at k
    rw [hX]
    exact k
  have HX:Aside (Below w.heap.size w X∧w.heap.size≤X.heap.size):=⟨by rw [hX];exact (U.out.1.alloc U.out.1.size _).drew,by rw [hXs];have:=U.out.1.size;omega⟩
  rw [hX] at ct
  go_region_held3 (fun _=>True) (trivial) (first | (go_at_call 124;refine ct.mono ?_;rintro e w5 ⟨a5,c5,rfl,hown5,hb5⟩))
  rw [← hX] at hown5 hb5
  have S:Aside (w5.ownsRow w.heap.size 5 1 (.slice a5 65 c5) 65 (z00 (INTS (2 :: ((List.range 32).map l ++ (List.range 32).map r))))∧Below w.heap.size w w5):=⟨z0f hown5 HX.out.2,HX.out.1.trans (hb5.mono HX.out.2)⟩
  clear hown5 hb5 ct
  go_wp2
  go_ret
  exact ⟨a5,c5,rfl,S.out.1,S.out.2⟩
end Go.Proofs.YthdpkaiieomdoaaGreatDoor.HX

namespace Go.Proofs.YthdpkaiieomdoaaGreatDoor.HX
open Go.RowKit
set_option maxRecDepth 100000
theorem zao (w:World) (n:Nat):Text (w.alloc (.cells (BARR 8 (BYTE n 8)) 5)) (some ⟨w.heap.size,0,none⟩) 8 (BE8 n):=
  Text.of_bytes (z2m w 8 (BYTE n 8) (INTS (BE8 n)) (by rw [INTS,List.length_map,z3C]) (fun i hi=>by
      rw [z2Y]
      unfold BYTE BE8
      rw [List.getD_eq_getElem?_getD,List.getElem?_map,List.getElem?_range hi]
      rfl) (z1t (z4e n)))
theorem zap {w:World} {n:Nat} {r:Nat→Nat} {g h:Nat} {t:TypeId} (hr:∀ i,r i<256) (hg:g<w.heap.size) (h1:Text w (some ⟨g,0,none⟩) 8 (BE8 n)) (h2:Has w h (UARR .u8 32 r) t):Parts (w.alloc (.cells #[.slice (some ⟨g,0,none⟩) 8 8,.slice (some ⟨h,0,none⟩) 32 32] 26)) (some ⟨w.heap.size,0,none⟩) 2 [⟨some ⟨g,0,none⟩,8,8,BE8 n⟩,⟨some ⟨h,0,none⟩,32,32,(List.range 32).map r⟩]:=
  ⟨rfl,fun _=>⟨w.heap.size,0,rfl,by simp,fun i p hp=>by
    have hi:i<2:=(List.getElem?_eq_some_iff.1 hp).1
    rw [World.cell?_alloc_at _ _ _ _ rfl]
    have h2:i=0∨i=1:=by omega
    rcases h2 with rfl | rfl <;> (simp at hp;subst hp;rfl)⟩,fun p hp=>by
    simp only [List.mem_cons,List.not_mem_nil,or_false] at hp
    rcases hp with rfl | rfl
    · exact ⟨h1.below ((Below.refl _ _).alloc (Nat.le_refl _) _),Nat.le_refl _,fun x e=>by simp only [Option.some.injEq] at e;rw [← e];simp;omega⟩
    · exact ⟨(h2.alloc _).text hr,Nat.le_refl _,fun x e=>by simp only [Option.some.injEq] at e;rw [← e];exact (h2.alloc _).lt⟩⟩
theorem z6C (n:Nat) (r:Nat→Nat) (g h:Nat):JOIN [⟨some ⟨g,0,none⟩,8,8,BE8 n⟩,⟨some ⟨h,0,none⟩,32,32,(List.range 32).map r⟩]=BE8 n ++ (List.range 32).map r:=by simp [JOIN]
theorem z8J (n:Nat) (hn:n<2 ^ 64) (r:Nat→Nat) (hr:∀ i,r i<256) (w:World):Calls Tryz.prog 116 #[.int .u64 (n:Int),.agg (UARR .u8 32 r)] w fun e w'=>
    ∃ a' c',e=.returned (.slice a' 41 c')∧w'.ownsRow w.heap.size 5 1 (.slice a' 41 c') 41 (z00 (INTS (3 :: (BE8 n ++ (List.range 32).map r))))∧Below w.heap.size w w':=by
  have hs32:=z1u
  have ci:=z5K n hn
  have H:Aside (∀ i,r i<256):=hr
  clear hr hn
  go_enter Tryz.func116,Tryz.ntmps116
  go_wp2_with fail
  have U:Aside (Below w.heap.size w (w.alloc (.cells (UARR .u8 32 r) 23))∧Has (w.alloc (.cells (UARR .u8 32 r) 23)) w.heap.size (UARR .u8 32 r) 23):=⟨(Below.refl _ _).alloc (Nat.le_refl _) _,Has.new w _ _⟩
  generalize w.alloc (.cells (UARR .u8 32 r) 23)=w1 at *
  obtain ⟨X,hX⟩:∃ X,X=((w1.drew.alloc (.cells (BARR 8 (BYTE n 8)) 5)).alloc (.cells #[.slice (some ⟨w1.heap.size,0,none⟩) 8 8,.slice (some ⟨w.heap.size,0,none⟩) 32 32] 26)):=⟨_,rfl⟩
  have hXs:X.heap.size=w1.heap.size+1+1:=by rw [hX];simp
  have ct:Calls Tryz.prog 124 #[.int .u8 3,.slice (some ⟨w1.heap.size+1,0,none⟩) 2 2] X fun e w'=>∃ a' c',e=.returned (.slice a' 41 c')∧w'.ownsRow X.heap.size 5 1 (.slice a' 41 c') 41 (z00 (INTS (3 :: (BE8 n ++ (List.range 32).map r))))∧Below X.heap.size X w':=by
    have hh1:=zao w1.drew n
    have hh2:Has (w1.drew.alloc (.cells (BARR 8 (BYTE n 8)) 5)) w.heap.size (UARR .u8 32 r) 23:=(show Has w1.drew w.heap.size (UARR .u8 32 r) 23 from U.out.2).alloc _
    have k:=z6c 3 (by decide) _ 2 2 _ _ (zap H.out (by simp) hh1 hh2) (fun p hp=>by simp only [List.mem_cons,List.not_mem_nil,or_false] at hp;rcases hp with rfl | rfl <;> (intro e;cases e)) (by rw [z6C];simp [BE8]) (by decide)
    have e41:(BE8 n ++ (List.range 32).map r).length+1=41:=by simp [BE8]
    rw [z6C,e41] at k
    have es:(w1.drew.alloc (.cells (BARR 8 (BYTE n 8)) 5)).heap.size=w1.heap.size+1:=by simp
    rw [hX]
    rw [es] at k
    exact k
  have HX:Aside (Below w.heap.size w X∧w.heap.size≤X.heap.size):=⟨by rw [hX];exact (U.out.1.drew.alloc U.out.1.size _).alloc (by have:=U.out.1.size;simp;omega) _,by rw [hXs];have:=U.out.1.size;omega⟩
  rw [hX] at ct
  go_region_held3 (fun _=>True) (trivial) (first | (go_at_call 162;refine (ci _).mono ?_;rintro e w4 ⟨rfl,rfl⟩) | (go_at_call 124;refine ct.mono ?_;rintro e w5 ⟨a5,c5,rfl,hown5,hb5⟩))
  rw [← hX] at hown5 hb5
  have S:Aside (w5.ownsRow w.heap.size 5 1 (.slice a5 41 c5) 41 (z00 (INTS (3 :: (BE8 n ++ (List.range 32).map r))))∧Below w.heap.size w w5):=⟨z0f hown5 HX.out.2,HX.out.1.trans (hb5.mono HX.out.2)⟩
  clear hown5 hb5 ct
  go_wp2
  go_ret
  exact ⟨a5,c5,rfl,S.out.1,S.out.2⟩
end Go.Proofs.YthdpkaiieomdoaaGreatDoor.HX

namespace Go.Proofs.YthdpkaiieomdoaaGreatDoor.HX
open Go.RowKit
set_option maxRecDepth 100000
theorem Has.whole {w:World} {g:Nat} {F:Nat→Nat} {k:IntKind} {n:Nat} {t:TypeId} (h:Has w g (UARR k n F) t):w.rangeAt g 0 (z06 k n F):=fun j v hv=>by
  have hj:j<n:=by have:=(List.getElem?_eq_some_iff.1 hv).1;rw [z08] at this;exact this
  rw [z1e _ _ _ _ hj] at hv
  rw [Nat.zero_add,h.cell,z07 _ _ _ _ hj,hv]
theorem z2j {B:Nat} {w w':World} {g o:Nat} {cs:List Value} (h:w.rangeAt g o cs) (hb:Below B w w') (hg:g<B):w'.rangeAt g o cs:=fun j v hv=>(hb.cell (by exact hg)).trans (h j v hv)
theorem z7J (d n:Nat) (F G:Nat→Nat) (w:World):∀ is:List Nat,(∀ i∈is,i<n)→(Op.eqItems (d+1) 5 1 (UARR .u8 n F) (UARR .u8 n G) is).run Tryz.prog w=.ok (is.all fun i=>F i == G i) w
  | [],_=>by simp [Op.eqItems]
  | i :: is,h=>by
    have hp:Tryz.prog.plainKey 5=true:=by kernel_rfl
    have hi:i<n:=h i (by simp)
    have h1:=run_part_plain (P:=Tryz.prog) w hp (z07 .u8 n F i hi)
    have h2:=run_part_plain (P:=Tryz.prog) w hp (z07 .u8 n G i hi)
    have h3:=run_equalIn_int (P:=Tryz.prog) w d 5 .u8 .u8 (F i:Nat) (G i:Nat) Tryz.underlying5
    have ih:=z7J d n F G w is (fun j hj=>h j (by simp [hj]))
    rw [Op.eqItems,Nat.mul_one]
    simp only [Sem.run_bind,h1,h2,h3,Result.andThen_ok]
    by_cases e:F i=G i
    · simp [e,ih]
    · have e2:((F i:Int) == (G i:Int))=false:=by simp;omega
      simp [e2,e]
theorem zaq (F G:Nat→Nat) (w:World):(Op.equalIn 10000 23 (.agg (UARR .u8 32 F)) (.agg (UARR .u8 32 G))).run Tryz.prog w=.ok ((List.range 32).all fun i=>F i == G i) w:=by
  obtain ⟨i8,hi,_⟩:=Option.map_eq_some_iff.1 z0I
  rw [run_equalIn_array (P:=Tryz.prog) w 9999 (UARR .u8 32 F) (UARR .u8 32 G) Tryz.underlying23 hi]
  have hc:Tryz.prog.cellsOf 5=1:=by kernel_rfl
  rw [hc]
  exact z7J 9998 32 F G w _ (fun i hi=>by simpa using hi)
end Go.Proofs.YthdpkaiieomdoaaGreatDoor.HX

namespace Go.Proofs.YthdpkaiieomdoaaGreatDoor.HX
open Go.RowKit
set_option maxRecDepth 100000
theorem z2I {ops:Array Oper} {o:Oper} {a:Act} {K:Act→World→Prop} {Q:Exit→Act→World→Prop} {E:Prop} (w:World) (hgd:o.guard=none) (s x:Operand)
    (ho:o.op=.call {callee:=.builtin .append,args:=#[s,x],argTypes:=#[26,26]})
    (base:Nat) (v:Value) (n:Nat) (xs:List Int) (hs:a.eval s=v) (hown:w.ownsRow base 5 1 v n (z00 xs))
    (b off m c:Nat) (l:List Int) (hx:a.eval x=.slice (some ⟨b,off,none⟩) m c) (hB:Bytes w (some ⟨b,off,none⟩) m l)
    (hm:0<m) (hb:n+m≤140737488355328) (hbase:base≤w.heap.size) (N:Nat) (hN:n+m=N)
    (h:∀ g cap w',w'.ownsRow base 5 1 (.slice (some ⟨g,0,none⟩) N cap) N (z00 (xs ++ l))→w.grownBy w' v.ownBlock→(v.ownBlock=some g∨g=w.heap.size)→g<w'.heap.size→K (a.put o.dst (.slice (some ⟨g,0,none⟩) N cap)) w'):if Region.wanted o (yielded ops a.tmps)=true then Oper.wp Tryz.prog o a w K Q else E:=by
  subst hN
  obtain ⟨i,hi,hz,hs1,hby⟩:=z12
  obtain ⟨b',off',e,_,hc⟩:=hB.2.1 hm
  simp only [Option.some.injEq,Addr.mk.injEq] at e
  obtain ⟨rfl,rfl,_⟩:=e
  refine step_append_lies w hgd s x 26 ho base 5 i (.int .u8 0) 1 1 Tryz.underlying26 hi hz hs1 hby rfl (by decide) v n (z00 xs) hs hown ⟨b,off,none⟩ m c (z00 l) hx (by simp [z00,hB.1]) ?_ (z15 l) hm (by simp only [maxLen];omega) (by omega) hbase w.heap.size rfl ?_
  · intro j u hj
    have hjl:j<l.length:=by
      have:=(List.getElem?_eq_some_iff.1 hj).1
      simpa [z00] using this
    rw [z0k l j hjl] at hj
    rw [z0H,hc j (by rw [← hB.1];exact hjl)]
    exact hj
  · intro g cap w' h1 h2 h3 h4
    rw [← z0m] at h1
    exact h g cap w' h1 h2 h3 h4
theorem zbF {w:World} {base n c:Nat} {a:Option Addr} {l:List Nat} (h:w.ownsRow base 5 1 (.slice a n c) n (z00 (INTS l))) (hl:Small8 l):Text w a n l:=Text.of_bytes (z1n h (z1t hl)).1
theorem zd5 {w:World} {base n c s:Nat} {a:Option Addr} {t:TypeId} {xs:List Value} (h:w.ownsRow base t s (.slice a n c) n xs):a=none→c=0:=fun ha=>by
  rcases h.2 with ⟨hv,_⟩ | ⟨g,cap,cur,hv,_⟩
  · simp at hv
    exact hv.2.2
  · subst ha
    simp at hv
theorem zar {w:World} {a:Option Addr} {n c:Nat} {l:List Nat} (hA:Text w a n l) (hnc:n≤c) (hx:∀ x,a=some x→x.block<w.heap.size):Parts (w.alloc (.cells #[.slice a n c] 26)) (some ⟨w.heap.size,0,none⟩) 1 [⟨a,n,c,l⟩]:=
  ⟨rfl,fun _=>⟨w.heap.size,0,rfl,by simp,fun i p hp=>by
      have hi:i<1:=(List.getElem?_eq_some_iff.1 hp).1
      obtain rfl:i=0:=by omega
      simp only [List.getElem?_cons_zero,Option.some.injEq] at hp
      subst hp
      rw [World.cell?_alloc_at _ _ _ _ rfl]
      rfl⟩,fun p hp=>by
      simp only [List.mem_singleton] at hp
      subst hp
      exact ⟨hA.below ((Below.refl _ _).alloc (Nat.le_refl _) _),hnc,fun x e=>by have:=hx x e;simp;omega⟩⟩
theorem z4g {w:World} {B n c:Nat} {a:Option Addr} {l:List Nat} (h:w.ownsRow B 5 1 (.slice a n c) n (z00 (INTS l))) (hs:Small8 l):Parts (w.alloc (.cells #[.slice a n c] 26)) (some ⟨w.heap.size,0,none⟩) 1 [⟨a,n,c,l⟩]∧(a=none→c=0):=by
  refine ⟨zar (zbF h hs) ?_ (fun x e=>?_),zd5 h⟩
  · exact (z1n h (z1t hs)).2
  · subst e
    rcases h.2 with ⟨e,_⟩ | ⟨g,c2,cur,e,_,hg,_⟩
    · simp at e
    · simp only [Value.slice.injEq,Option.some.injEq] at e
      rw [e.1]
      exact (Array.getElem?_eq_some_iff.1 hg).1
theorem z3E (a:Option Addr) (n c:Nat) (l:List Nat):JOIN [⟨a,n,c,l⟩]=l:=by simp [JOIN]
theorem z1v {x:Nat} {l:List Nat} (hx:x<256) (h:Small8 l):Small8 (x :: l):=fun y hy=>by
  rcases List.mem_cons.1 hy with rfl | hy
  · exact hx
  · exact h y hy
theorem z1H {l k:List Nat} (h1:Small8 l) (h2:Small8 k):Small8 (l ++ k):=fun y hy=>by
  rcases List.mem_append.1 hy with hy | hy
  · exact h1 y hy
  · exact h2 y hy
theorem z0Q {f:Nat→Nat} (h:∀ i,f i<256):Small8 ((List.range 32).map f):=fun y hy=>by
  obtain ⟨i,_,rfl⟩:=List.mem_map.1 hy
  exact h i
theorem z6D (n:Nat):Small8 (BE8 n):=fun y hy=>by
  obtain ⟨i,_,rfl⟩:=List.mem_map.1 hy
  exact Nat.mod_lt _ (by decide)
theorem z5l {w:World} (d:Int) {B n c:Nat} {a:Option Addr} {l:List Nat} (h:w.ownsRow B 5 1 (.slice a n c) n (z00 (INTS l))) (hs:Small8 l) (hl:l.length<5000) (hT:Tabled w):
    Calls Tryz.prog 49 #[.int .i64 d,.slice (some ⟨w.heap.size,0,none⟩) 1 1] (w.alloc (.cells #[.slice a n c] 26)) fun e w'=>e=.returned (.agg (UARR .u8 32 (z0t d l)))∧Below (w.alloc (.cells #[.slice a n c] 26)).heap.size (w.alloc (.cells #[.slice a n c] 26)) w':=by
  have:=zfb d _ 1 1 _ _ (z4g h hs).1 (hT.below ((Below.refl _ _).alloc (Nat.le_refl _) _)) (by rw [z3E];omega) (by decide)
  rw [z3E] at this
  exact this
theorem zei (d:Int) (l r:Nat→Nat) (hl:∀ i,l i<256) (hr:∀ i,r i<256) (w:World) (hT:Tabled w):Calls Tryz.prog 54 #[.int .i64 d,.agg (UARR .u8 32 l),.agg (UARR .u8 32 r)] w fun e w'=>e=.returned (.agg (UARR .u8 32 (z0t d (1 :: ((List.range 32).map l ++ (List.range 32).map r)))))∧Below w.heap.size w w':=by
  have hz:=z0T
  have ct:=fun W=>z8H l r hl hr W
  have H:Aside ((∀ i,l i<256)∧(∀ i,r i<256)∧Tabled w):=⟨hl,hr,hT⟩
  obtain ⟨W,zb,lb,rb,hW,hzb,hlb,hrb,R,h4,h5⟩:∃ W zb lb rb,W=((w.alloc (.cells (UARR .u8 32 l) 23)).alloc (.cells (UARR .u8 32 r) 23)).alloc (.cells (UARR .u8 32 fun _=>0) 23)∧zb=w.heap.size+1+1∧lb=w.heap.size∧rb=w.heap.size+1∧Aside (Has W zb (UARR .u8 32 fun _=>0) 23∧Below w.heap.size w W∧w.heap.size≤zb)∧W.rangeAt lb 0 (z06 .u8 32 l)∧W.rangeAt rb 0 (z06 .u8 32 r):=by
    refine ⟨_,_,_,_,rfl,rfl,rfl,rfl,⟨Has.at _ _ _ (by simp),(((Below.refl _ _).alloc (Nat.le_refl _) _).alloc (by simp) _).alloc (by simp;omega) _,by omega⟩,(((Has.new w _ _).alloc _).alloc _).whole,((Has.at _ _ _ (by simp)).alloc _).whole⟩
  clear hl hr hT
  go_enter Tryz.func54,Tryz.ntmps54
  go_wp2_with (first
    | (rw [← hW];refine wpList_load_mid rfl 23 (.tmp 4) rfl w.heap.size 0 rfl (z06 .u8 32 l) (.array 32 5) (by rw [← hlb];exact h4) Tryz.underlying23 rfl (by rw [z08];exact z0B) ?_;rw [← z0q])
    | (refine wpList_load_mid rfl 23 (.tmp 5) rfl (w.heap.size+1) 0 rfl (z06 .u8 32 r) (.array 32 5) (by rw [← hrb];exact h5) Tryz.underlying23 rfl (by rw [z08];exact z0B) ?_;rw [← z0q]))
  rw [← hzb]
  refine (ct _).mono ?_
  rintro e w2 ⟨a',c',rfl,hown,hb⟩
  rw [← hW] at hown hb
  clear ct h4 h5 hW hzb hlb hrb
  have S:Aside (Has w2 zb (UARR .u8 32 fun _=>0) 23∧Below w.heap.size w w2):=⟨R.out.1.keep hb,R.out.2.1.trans (hb.mono R.out.2.1.size)⟩
  have cs:=z5l d hown (z1v (by decide) (z1H (z0Q H.out.1) (z0Q H.out.2.1))) (by simp) (H.out.2.2.below S.out.2)
  have Z:Aside (w.heap.size≤zb):=R.out.2.2
  clear hown hb R
  go_wp2_with fail
  refine cs.mono ?_
  rintro e w3 ⟨rfl,hb3⟩
  have hb4:Below w2.heap.size w2 w3:=((Below.refl _ _).alloc (Nat.le_refl _) _).trans (hb3.mono (by simp))
  have S2:Aside (Has w3 zb (UARR .u8 32 fun _=>0) 23∧Below w.heap.size w w3):=⟨S.out.1.keep hb4,S.out.2.trans (hb4.mono S.out.2.size)⟩
  clear cs hb3 hb4 S
  go_wp2_with (first
    | (refine wpList_store_row rfl 23 _ _ rfl _ _ rfl rfl _ _ S2.out.1 (z02 _) (by rw [z01,z01]) (z0e _ _ _) ?_))
  refine bodyPost_ret (v:=.agg (UARR .u8 32 (z0t d (1 :: ((List.range 32).map l ++ (List.range 32).map r))))) ?_ rfl ⟨rfl,z04 S2.out.2 Z.out _⟩
  exact results_cell_row rfl _ _ zb 23 _ (0,0) _ rfl (S2.out.1.row _) Tryz.underlying23 rfl (z02 _)
theorem zej (d:Int) (l r:Nat→Nat) (hl:∀ i,l i<256) (hr:∀ i,r i<256) (w:World) (hT:Tabled w):Calls Tryz.prog 117 #[.int .i64 d,.agg (UARR .u8 32 l),.agg (UARR .u8 32 r)] w fun e w'=>e=.returned (.agg (UARR .u8 32 (z0t d (2 :: ((List.range 32).map l ++ (List.range 32).map r)))))∧Below w.heap.size w w':=by
  have hz:=z0T
  have ct:=fun W=>z8I l r hl hr W
  have H:Aside ((∀ i,l i<256)∧(∀ i,r i<256)∧Tabled w):=⟨hl,hr,hT⟩
  obtain ⟨W,zb,lb,rb,hW,hzb,hlb,hrb,R,h4,h5⟩:∃ W zb lb rb,W=((w.alloc (.cells (UARR .u8 32 l) 23)).alloc (.cells (UARR .u8 32 r) 23)).alloc (.cells (UARR .u8 32 fun _=>0) 23)∧zb=w.heap.size+1+1∧lb=w.heap.size∧rb=w.heap.size+1∧Aside (Has W zb (UARR .u8 32 fun _=>0) 23∧Below w.heap.size w W∧w.heap.size≤zb)∧W.rangeAt lb 0 (z06 .u8 32 l)∧W.rangeAt rb 0 (z06 .u8 32 r):=by
    refine ⟨_,_,_,_,rfl,rfl,rfl,rfl,⟨Has.at _ _ _ (by simp),(((Below.refl _ _).alloc (Nat.le_refl _) _).alloc (by simp) _).alloc (by simp;omega) _,by omega⟩,(((Has.new w _ _).alloc _).alloc _).whole,((Has.at _ _ _ (by simp)).alloc _).whole⟩
  clear hl hr hT
  go_enter Tryz.func117,Tryz.ntmps117
  go_wp2_with (first
    | (rw [← hW];refine wpList_load_mid rfl 23 (.tmp 4) rfl w.heap.size 0 rfl (z06 .u8 32 l) (.array 32 5) (by rw [← hlb];exact h4) Tryz.underlying23 rfl (by rw [z08];exact z0B) ?_;rw [← z0q])
    | (refine wpList_load_mid rfl 23 (.tmp 5) rfl (w.heap.size+1) 0 rfl (z06 .u8 32 r) (.array 32 5) (by rw [← hrb];exact h5) Tryz.underlying23 rfl (by rw [z08];exact z0B) ?_;rw [← z0q]))
  rw [← hzb]
  refine (ct _).mono ?_
  rintro e w2 ⟨a',c',rfl,hown,hb⟩
  rw [← hW] at hown hb
  clear ct h4 h5 hW hzb hlb hrb
  have S:Aside (Has w2 zb (UARR .u8 32 fun _=>0) 23∧Below w.heap.size w w2):=⟨R.out.1.keep hb,R.out.2.1.trans (hb.mono R.out.2.1.size)⟩
  have cs:=z5l d hown (z1v (by decide) (z1H (z0Q H.out.1) (z0Q H.out.2.1))) (by simp) (H.out.2.2.below S.out.2)
  have Z:Aside (w.heap.size≤zb):=R.out.2.2
  clear hown hb R
  go_wp2_with fail
  refine cs.mono ?_
  rintro e w3 ⟨rfl,hb3⟩
  have hb4:Below w2.heap.size w2 w3:=((Below.refl _ _).alloc (Nat.le_refl _) _).trans (hb3.mono (by simp))
  have S2:Aside (Has w3 zb (UARR .u8 32 fun _=>0) 23∧Below w.heap.size w w3):=⟨S.out.1.keep hb4,S.out.2.trans (hb4.mono S.out.2.size)⟩
  clear cs hb3 hb4 S
  go_wp2_with (first
    | (refine wpList_store_row rfl 23 _ _ rfl _ _ rfl rfl _ _ S2.out.1 (z02 _) (by rw [z01,z01]) (z0e _ _ _) ?_))
  refine bodyPost_ret (v:=.agg (UARR .u8 32 (z0t d (2 :: ((List.range 32).map l ++ (List.range 32).map r))))) ?_ rfl ⟨rfl,z04 S2.out.2 Z.out _⟩
  exact results_cell_row rfl _ _ zb 23 _ (0,0) _ rfl (S2.out.1.row _) Tryz.underlying23 rfl (z02 _)
theorem zek (d:Int) (n:Nat) (hn:n<2 ^ 64) (r:Nat→Nat) (hr:∀ i,r i<256) (w:World) (hT:Tabled w):Calls Tryz.prog 72 #[.int .i64 d,.int .u64 (n:Int),.agg (UARR .u8 32 r)] w fun e w'=>e=.returned (.agg (UARR .u8 32 (z0t d (3 :: (BE8 n ++ (List.range 32).map r)))))∧Below w.heap.size w w':=by
  have hz:=z0T
  have ct:=fun W=>z8J n hn r hr W
  have H:Aside ((∀ i,r i<256)∧Tabled w):=⟨hr,hT⟩
  obtain ⟨W,zb,rb,hW,hzb,hrb,R,h5⟩:∃ W zb rb,W=(w.alloc (.cells (UARR .u8 32 r) 23)).alloc (.cells (UARR .u8 32 fun _=>0) 23)∧zb=w.heap.size+1∧rb=w.heap.size∧Aside (Has W zb (UARR .u8 32 fun _=>0) 23∧Below w.heap.size w W∧w.heap.size≤zb)∧W.rangeAt rb 0 (z06 .u8 32 r):=by
    refine ⟨_,_,_,rfl,rfl,rfl,⟨Has.at _ _ _ (by simp),((Below.refl _ _).alloc (Nat.le_refl _) _).alloc (by simp) _,by omega⟩,((Has.new w _ _).alloc _).whole⟩
  clear hn hr hT
  go_enter Tryz.func72,Tryz.ntmps72
  go_wp2_with (first
    | (rw [← hW];refine wpList_load_mid rfl 23 (.tmp 5) rfl w.heap.size 0 rfl (z06 .u8 32 r) (.array 32 5) (by rw [← hrb];exact h5) Tryz.underlying23 rfl (by rw [z08];exact z0B) ?_;rw [← z0q]))
  rw [← hzb]
  refine (ct _).mono ?_
  rintro e w2 ⟨a',c',rfl,hown,hb⟩
  rw [← hW] at hown hb
  clear ct h5 hW hzb hrb
  have S:Aside (Has w2 zb (UARR .u8 32 fun _=>0) 23∧Below w.heap.size w w2):=⟨R.out.1.keep hb,R.out.2.1.trans (hb.mono R.out.2.1.size)⟩
  have cs:=z5l d hown (z1v (by decide) (z1H (z6D n) (z0Q H.out.1))) (by simp [BE8]) (H.out.2.below S.out.2)
  have Z:Aside (w.heap.size≤zb):=R.out.2.2
  clear hown hb R
  go_wp2_with fail
  refine cs.mono ?_
  rintro e w3 ⟨rfl,hb3⟩
  have hb4:Below w2.heap.size w2 w3:=((Below.refl _ _).alloc (Nat.le_refl _) _).trans (hb3.mono (by simp))
  have S2:Aside (Has w3 zb (UARR .u8 32 fun _=>0) 23∧Below w.heap.size w w3):=⟨S.out.1.keep hb4,S.out.2.trans (hb4.mono S.out.2.size)⟩
  clear cs hb3 hb4 S
  go_wp2_with (first
    | (refine wpList_store_row rfl 23 _ _ rfl _ _ rfl rfl _ _ S2.out.1 (z02 _) (by rw [z01,z01]) (z0e _ _ _) ?_))
  refine bodyPost_ret (v:=.agg (UARR .u8 32 (z0t d (3 :: (BE8 n ++ (List.range 32).map r))))) ?_ rfl ⟨rfl,z04 S2.out.2 Z.out _⟩
  exact results_cell_row rfl _ _ zb 23 _ (0,0) _ rfl (S2.out.1.row _) Tryz.underlying23 rfl (z02 _)
end Go.Proofs.YthdpkaiieomdoaaGreatDoor.HX

namespace Go.Proofs.YthdpkaiieomdoaaGreatDoor
open Go.RowKit
set_option maxRecDepth 100000
def LST (f:Nat→Nat):List Int:=(List.range 32).map fun i=>((f i:Nat):Int)
def FNC (h:List Int) (i:Nat):Nat:=(h.getD i 0).toNat
def IsH (h:List Int):Prop:=h.length=32∧∀ x∈h,0≤x∧x≤255
theorem z5M (f:Nat→Nat):(LST f).length=32:=by simp [LST]
theorem z7K {f:Nat→Nat} (h:∀ i,f i<256):IsH (LST f):=⟨z5M f,fun x hx=>by
  obtain ⟨i,_,rfl⟩:=List.mem_map.1 hx
  have:=h i
  omega⟩
theorem z1j (f:Nat→Nat):HX.UARR .u8 32 f=(z00 (LST f)).toArray:=by
  unfold HX.UARR z00 LST
  rw [List.map_map]
  rfl
theorem z6d {h:List Int} (hh:IsH h):LST (FNC h)=h:=by
  apply List.ext_getElem (by rw [z5M,hh.1])
  intro i h1 h2
  simp only [LST,List.getElem_map,List.getElem_range,FNC]
  have:=hh.2 h[i] (List.getElem_mem h2)
  rw [List.getD_eq_getElem?_getD,List.getElem?_eq_getElem h2,Option.getD_some]
  omega
theorem z0F {h:List Int} (hh:IsH h):(z00 h).toArray=HX.UARR .u8 32 (FNC h):=by rw [z1j,z6d hh]
theorem z1N {h:List Int} (hh:IsH h) (i:Nat):FNC h i<256:=by
  unfold FNC
  by_cases hi:i<h.length
  · rw [List.getD_eq_getElem?_getD,List.getElem?_eq_getElem hi,Option.getD_some]
    have:=hh.2 h[i] (List.getElem_mem hi)
    omega
  · rw [List.getD_eq_getElem?_getD,List.getElem?_eq_none (by omega)]
    decide
def NATS (h:List Int):List Nat:=(List.range 32).map (FNC h)
def z1R (d:Int) (l r:List Int):List Int:=LST (HX.z0t d (1 :: (NATS l ++ NATS r)))
def z3F (d:Int) (l r:List Int):List Int:=LST (HX.z0t d (2 :: (NATS l ++ NATS r)))
def z0u (d:Int) (n:Nat) (r:List Int):List Int:=LST (HX.z0t d (3 :: (HX.BE8 n ++ NATS r)))
theorem z3G (d:Int) (l r:List Int):IsH (z1R d l r):=z7K fun i=>HX.z2W d _ _ i
theorem zd6 (d:Int) (l r:List Int):IsH (z3F d l r):=z7K fun i=>HX.z2W d _ _ i
theorem z2Z (d:Int) (n:Nat) (r:List Int):IsH (z0u d n r):=z7K fun i=>HX.z2W d _ _ i
theorem zd7 (d:Int) (l r:List Int) (hl:IsH l) (hr:IsH r) (w:World) (hT:HX.Tabled w):Calls Tryz.prog 54 #[.int .i64 d,.agg (z00 l).toArray,.agg (z00 r).toArray] w fun e w'=>e=.returned (.agg (z00 (z1R d l r)).toArray)∧Below w.heap.size w w':=by
  rw [z0F hl,z0F hr]
  refine (HX.zei d (FNC l) (FNC r) (z1N hl) (z1N hr) w hT).mono ?_
  rintro e w' ⟨rfl,hb⟩
  exact ⟨by rw [z1j];rfl,hb⟩
theorem zd8 (d:Int) (l r:List Int) (hl:IsH l) (hr:IsH r) (w:World) (hT:HX.Tabled w):Calls Tryz.prog 117 #[.int .i64 d,.agg (z00 l).toArray,.agg (z00 r).toArray] w fun e w'=>e=.returned (.agg (z00 (z3F d l r)).toArray)∧Below w.heap.size w w':=by
  rw [z0F hl,z0F hr]
  refine (HX.zej d (FNC l) (FNC r) (z1N hl) (z1N hr) w hT).mono ?_
  rintro e w' ⟨rfl,hb⟩
  exact ⟨by rw [z1j];rfl,hb⟩
theorem zd9 (d:Int) (n:Nat) (hn:n<2 ^ 64) (r:List Int) (hr:IsH r) (w:World) (hT:HX.Tabled w):Calls Tryz.prog 72 #[.int .i64 d,.int .u64 (n:Int),.agg (z00 r).toArray] w fun e w'=>e=.returned (.agg (z00 (z0u d n r)).toArray)∧Below w.heap.size w w':=by
  rw [z0F hr]
  refine (HX.zek d n hn (FNC r) (z1N hr) w hT).mono ?_
  rintro e w' ⟨rfl,hb⟩
  exact ⟨by rw [z1j];rfl,hb⟩
end Go.Proofs.YthdpkaiieomdoaaGreatDoor
