/- Texts of ClashForks, one behind the other: HashPairTexts, HashRootText, HashEq, HashSumPlain, VerifyHash, ProofSame, ProofTexts, ProofRow. -/
import Derived.ChangeKeysEq
import Derived.Deep.RegionHeldLaw
import Derived.Deep.RegionHeld3
import Derived.Test.YthpdlnbbbcgemaaGreatDoorClashForksP7
import Derived.Test.YthpdlnbbbcgemaaGreatDoorClashForksP12
namespace Go.Proofs.YthpdlnbbbcgemaaGreatDoor.HX
open Go.RowKit
set_option maxRecDepth 100000
theorem z0u {w:World} {base base':Nat} {t:TypeId} {s:Nat} {v:Value} {n:Nat} {xs:List Value} (h:w.ownsRow base t s v n xs) (hb:base'≤base):w.ownsRow base' t s v n xs:=
  ⟨h.1,h.2.imp id fun ⟨g,c,cur,a,b,r⟩=>⟨g,c,cur,a,Nat.le_trans hb b,r⟩⟩
theorem z1M (b:Nat) (w:World):(Instr.sliceAt 24 (.pointer (some ⟨b,0,none⟩)) none none none).run Tryz.prog w=.ok (.slice (some ⟨b,0,none⟩) 32 32) w:=by
  have hn:Tryz.prog.arrayLen 24=32:=by kernel_rfl
  rw [run_sliceAt_array_all w 24 ⟨b,0,none⟩ (by kernel_rfl),hn]
  have he:Tryz.prog.elem 24=5:=by kernel_rfl
  obtain ⟨i8,hi,h8⟩:=Option.map_eq_some_iff.1 z0R
  simp only [Prod.mk.injEq] at h8
  rw [he]
  simp [sizeOf,typeInfo,hi,h8.2.1,slicedAt,Addr.add]
theorem Has.text {w:World} {g:Nat} {f:Nat→Nat} {t:TypeId} (h:Has w g (UARR .u8 32 f) t) (hf:∀ i,f i<256):Text w (some ⟨g,0,none⟩) 32 ((List.range 32).map f):=
  ⟨by simp,fun _=>⟨g,0,rfl,h.lt,fun i hi=>by rw [Nat.zero_add,h.cell,z0a _ _ _ _ hi,List.getD_eq_getElem?_getD,List.getElem?_map,List.getElem?_range hi];rfl⟩,fun x hx=>by obtain ⟨i,_,rfl⟩:=List.mem_map.1 hx;exact hf i⟩
theorem z7u {w:World} {l r:Nat→Nat} {g h:Nat} {t u:TypeId} (hl:∀ i,l i<256) (hr:∀ i,r i<256) (h1:Has w g (UARR .u8 32 l) t) (h2:Has w h (UARR .u8 32 r) u):Parts (w.alloc (.cells #[.slice (some ⟨g,0,none⟩) 32 32,.slice (some ⟨h,0,none⟩) 32 32] 25)) (some ⟨w.heap.size,0,none⟩) 2 [⟨some ⟨g,0,none⟩,32,32,(List.range 32).map l⟩,⟨some ⟨h,0,none⟩,32,32,(List.range 32).map r⟩]:=
  ⟨rfl,fun _=>⟨w.heap.size,0,rfl,by simp,fun i p hp=>by
    have hi:i<2:=(List.getElem?_eq_some_iff.1 hp).1
    rw [World.cell?_alloc_at _ _ _ _ rfl]
    have h2:i=0∨i=1:=by omega
    rcases h2 with rfl | rfl <;> (simp at hp;subst hp;rfl)⟩,fun p hp=>by
    simp only [List.mem_cons,List.not_mem_nil,or_false] at hp
    rcases hp with rfl | rfl
    · exact ⟨(h1.alloc _).text hl,Nat.le_refl _,fun x e=>by simp only [Option.some.injEq] at e;rw [← e];exact (h1.alloc _).lt⟩
    · exact ⟨(h2.alloc _).text hr,Nat.le_refl _,fun x e=>by simp only [Option.some.injEq] at e;rw [← e];exact (h2.alloc _).lt⟩⟩
theorem z4e (l r:Nat→Nat) (g h:Nat):JOIN [⟨some ⟨g,0,none⟩,32,32,(List.range 32).map l⟩,⟨some ⟨h,0,none⟩,32,32,(List.range 32).map r⟩]=(List.range 32).map l ++ (List.range 32).map r:=by simp [JOIN]
theorem z5m (l r:Nat→Nat) (hl:∀ i,l i<256) (hr:∀ i,r i<256) (w:World):Calls Tryz.prog 48 #[.agg (UARR .u8 32 l),.agg (UARR .u8 32 r)] w fun e w'=>
    ∃ a' c',e=.returned (.slice a' 65 c')∧w'.ownsRow w.heap.size 5 1 (.slice a' 65 c') 65 (z01 (INTS (1 :: ((List.range 32).map l ++ (List.range 32).map r))))∧Below w.heap.size w w':=by
  have hs32:=z1M
  have H:Aside ((∀ i,l i<256)∧(∀ i,r i<256)):=⟨hl,hr⟩
  clear hl hr
  go_enter Tryz.func48,Tryz.ntmps48
  go_wp2_with fail
  have U:Aside (Below w.heap.size w ((w.alloc (.cells (UARR .u8 32 l) 24)).alloc (.cells (UARR .u8 32 r) 24))∧Has ((w.alloc (.cells (UARR .u8 32 l) 24)).alloc (.cells (UARR .u8 32 r) 24)) w.heap.size (UARR .u8 32 l) 24∧Has ((w.alloc (.cells (UARR .u8 32 l) 24)).alloc (.cells (UARR .u8 32 r) 24)) (w.heap.size+1) (UARR .u8 32 r) 24):=⟨((Below.refl _ _).alloc (Nat.le_refl _) _).alloc (by simp) _,(Has.new w _ _).alloc _,Has.at _ _ _ (by simp)⟩
  generalize (w.alloc (.cells (UARR .u8 32 l) 24)).alloc (.cells (UARR .u8 32 r) 24)=w1 at *
  generalize hh:w.heap.size+1=h at *
  obtain ⟨X,hX⟩:∃ X,X=(w1.alloc (.cells #[.slice (some ⟨w.heap.size,0,none⟩) 32 32,.slice (some ⟨h,0,none⟩) 32 32] 25)).drew:=⟨_,rfl⟩
  have hXs:X.heap.size=w1.heap.size+1:=by rw [hX];simp [World.drew]
  have ct:Calls Tryz.prog 85 #[.int .u8 1,.slice (some ⟨w1.heap.size,0,none⟩) 2 2] X fun e w'=>∃ a' c',e=.returned (.slice a' 65 c')∧w'.ownsRow X.heap.size 5 1 (.slice a' 65 c') 65 (z01 (INTS (1 :: ((List.range 32).map l ++ (List.range 32).map r))))∧Below X.heap.size X w':=by
    have hh1:Has w1.drew w.heap.size (UARR .u8 32 l) 24:=U.out.2.1
    have hh2:Has w1.drew h (UARR .u8 32 r) 24:=U.out.2.2
    have k:=z72 1 (by decide) _ 2 2 _ _ (z7u H.out.1 H.out.2 hh1 hh2) (fun p hp=>by simp only [List.mem_cons,List.not_mem_nil,or_false] at hp;rcases hp with rfl | rfl <;> (intro e;cases e)) (by rw [z4e];simp) (by decide)
    have e65:((List.range 32).map l ++ (List.range 32).map r).length+1=65:=by simp
    rw [z4e,e65] at k
    rw [hX]
    exact k
  have HX:Aside (Below w.heap.size w X∧w.heap.size≤X.heap.size):=⟨by rw [hX];exact (U.out.1.alloc U.out.1.size _).drew,by rw [hXs];have:=U.out.1.size;omega⟩
  rw [hX] at ct
  go_region_held3 (fun _=>True) (trivial) (first | (go_at_call 85;refine ct.mono ?_;rintro e w5 ⟨a5,c5,rfl,hown5,hb5⟩))
  rw [← hX] at hown5 hb5
  have S:Aside (w5.ownsRow w.heap.size 5 1 (.slice a5 65 c5) 65 (z01 (INTS (1 :: ((List.range 32).map l ++ (List.range 32).map r))))∧Below w.heap.size w w5):=⟨z0u hown5 HX.out.2,HX.out.1.trans (hb5.mono HX.out.2)⟩
  clear hown5 hb5 ct
  go_wp2
  go_ret
  exact ⟨a5,c5,rfl,S.out.1,S.out.2⟩
theorem z5n (l r:Nat→Nat) (hl:∀ i,l i<256) (hr:∀ i,r i<256) (w:World):Calls Tryz.prog 87 #[.agg (UARR .u8 32 l),.agg (UARR .u8 32 r)] w fun e w'=>
    ∃ a' c',e=.returned (.slice a' 65 c')∧w'.ownsRow w.heap.size 5 1 (.slice a' 65 c') 65 (z01 (INTS (2 :: ((List.range 32).map l ++ (List.range 32).map r))))∧Below w.heap.size w w':=by
  have hs32:=z1M
  have H:Aside ((∀ i,l i<256)∧(∀ i,r i<256)):=⟨hl,hr⟩
  clear hl hr
  go_enter Tryz.func87,Tryz.ntmps87
  go_wp2_with fail
  have U:Aside (Below w.heap.size w ((w.alloc (.cells (UARR .u8 32 l) 24)).alloc (.cells (UARR .u8 32 r) 24))∧Has ((w.alloc (.cells (UARR .u8 32 l) 24)).alloc (.cells (UARR .u8 32 r) 24)) w.heap.size (UARR .u8 32 l) 24∧Has ((w.alloc (.cells (UARR .u8 32 l) 24)).alloc (.cells (UARR .u8 32 r) 24)) (w.heap.size+1) (UARR .u8 32 r) 24):=⟨((Below.refl _ _).alloc (Nat.le_refl _) _).alloc (by simp) _,(Has.new w _ _).alloc _,Has.at _ _ _ (by simp)⟩
  generalize (w.alloc (.cells (UARR .u8 32 l) 24)).alloc (.cells (UARR .u8 32 r) 24)=w1 at *
  generalize hh:w.heap.size+1=h at *
  obtain ⟨X,hX⟩:∃ X,X=(w1.alloc (.cells #[.slice (some ⟨w.heap.size,0,none⟩) 32 32,.slice (some ⟨h,0,none⟩) 32 32] 25)).drew:=⟨_,rfl⟩
  have hXs:X.heap.size=w1.heap.size+1:=by rw [hX];simp [World.drew]
  have ct:Calls Tryz.prog 85 #[.int .u8 2,.slice (some ⟨w1.heap.size,0,none⟩) 2 2] X fun e w'=>∃ a' c',e=.returned (.slice a' 65 c')∧w'.ownsRow X.heap.size 5 1 (.slice a' 65 c') 65 (z01 (INTS (2 :: ((List.range 32).map l ++ (List.range 32).map r))))∧Below X.heap.size X w':=by
    have hh1:Has w1.drew w.heap.size (UARR .u8 32 l) 24:=U.out.2.1
    have hh2:Has w1.drew h (UARR .u8 32 r) 24:=U.out.2.2
    have k:=z72 2 (by decide) _ 2 2 _ _ (z7u H.out.1 H.out.2 hh1 hh2) (fun p hp=>by simp only [List.mem_cons,List.not_mem_nil,or_false] at hp;rcases hp with rfl | rfl <;> (intro e;cases e)) (by rw [z4e];simp) (by decide)
    have e65:((List.range 32).map l ++ (List.range 32).map r).length+1=65:=by simp
    rw [z4e,e65] at k
    rw [hX]
    exact k
  have HX:Aside (Below w.heap.size w X∧w.heap.size≤X.heap.size):=⟨by rw [hX];exact (U.out.1.alloc U.out.1.size _).drew,by rw [hXs];have:=U.out.1.size;omega⟩
  rw [hX] at ct
  go_region_held3 (fun _=>True) (trivial) (first | (go_at_call 85;refine ct.mono ?_;rintro e w5 ⟨a5,c5,rfl,hown5,hb5⟩))
  rw [← hX] at hown5 hb5
  have S:Aside (w5.ownsRow w.heap.size 5 1 (.slice a5 65 c5) 65 (z01 (INTS (2 :: ((List.range 32).map l ++ (List.range 32).map r))))∧Below w.heap.size w w5):=⟨z0u hown5 HX.out.2,HX.out.1.trans (hb5.mono HX.out.2)⟩
  clear hown5 hb5 ct
  go_wp2
  go_ret
  exact ⟨a5,c5,rfl,S.out.1,S.out.2⟩
end Go.Proofs.YthpdlnbbbcgemaaGreatDoor.HX

namespace Go.Proofs.YthpdlnbbbcgemaaGreatDoor.HX
open Go.RowKit
set_option maxRecDepth 100000
theorem zbt (w:World) (n:Nat):Text (w.alloc (.cells (BARR 8 (BYTE n 8)) 5)) (some ⟨w.heap.size,0,none⟩) 8 (BE8 n):=
  Text.of_bytes (z2M w 8 (BYTE n 8) (INTS (BE8 n)) (by rw [INTS,List.length_map,z4c]) (fun i hi=>by
      rw [z3k]
      unfold BYTE BE8
      rw [List.getD_eq_getElem?_getD,List.getElem?_map,List.getElem?_range hi]
      rfl) (z1x (z4F n)))
theorem zbu {w:World} {n:Nat} {r:Nat→Nat} {g h:Nat} {t:TypeId} (hr:∀ i,r i<256) (hg:g<w.heap.size) (h1:Text w (some ⟨g,0,none⟩) 8 (BE8 n)) (h2:Has w h (UARR .u8 32 r) t):Parts (w.alloc (.cells #[.slice (some ⟨g,0,none⟩) 8 8,.slice (some ⟨h,0,none⟩) 32 32] 25)) (some ⟨w.heap.size,0,none⟩) 2 [⟨some ⟨g,0,none⟩,8,8,BE8 n⟩,⟨some ⟨h,0,none⟩,32,32,(List.range 32).map r⟩]:=
  ⟨rfl,fun _=>⟨w.heap.size,0,rfl,by simp,fun i p hp=>by
    have hi:i<2:=(List.getElem?_eq_some_iff.1 hp).1
    rw [World.cell?_alloc_at _ _ _ _ rfl]
    have h2:i=0∨i=1:=by omega
    rcases h2 with rfl | rfl <;> (simp at hp;subst hp;rfl)⟩,fun p hp=>by
    simp only [List.mem_cons,List.not_mem_nil,or_false] at hp
    rcases hp with rfl | rfl
    · exact ⟨h1.below ((Below.refl _ _).alloc (Nat.le_refl _) _),Nat.le_refl _,fun x e=>by simp only [Option.some.injEq] at e;rw [← e];simp;omega⟩
    · exact ⟨(h2.alloc _).text hr,Nat.le_refl _,fun x e=>by simp only [Option.some.injEq] at e;rw [← e];exact (h2.alloc _).lt⟩⟩
theorem z7v (n:Nat) (r:Nat→Nat) (g h:Nat):JOIN [⟨some ⟨g,0,none⟩,8,8,BE8 n⟩,⟨some ⟨h,0,none⟩,32,32,(List.range 32).map r⟩]=BE8 n ++ (List.range 32).map r:=by simp [JOIN]
theorem z5o (n:Nat) (hn:n<2 ^ 64) (r:Nat→Nat) (hr:∀ i,r i<256) (w:World):Calls Tryz.prog 88 #[.int .u64 (n:Int),.agg (UARR .u8 32 r)] w fun e w'=>
    ∃ a' c',e=.returned (.slice a' 41 c')∧w'.ownsRow w.heap.size 5 1 (.slice a' 41 c') 41 (z01 (INTS (3 :: (BE8 n ++ (List.range 32).map r))))∧Below w.heap.size w w':=by
  have hs32:=z1M
  have ci:=z6g n hn
  have H:Aside (∀ i,r i<256):=hr
  clear hr hn
  go_enter Tryz.func88,Tryz.ntmps88
  go_wp2_with fail
  have U:Aside (Below w.heap.size w (w.alloc (.cells (UARR .u8 32 r) 24))∧Has (w.alloc (.cells (UARR .u8 32 r) 24)) w.heap.size (UARR .u8 32 r) 24):=⟨(Below.refl _ _).alloc (Nat.le_refl _) _,Has.new w _ _⟩
  generalize w.alloc (.cells (UARR .u8 32 r) 24)=w1 at *
  obtain ⟨X,hX⟩:∃ X,X=((w1.drew.alloc (.cells (BARR 8 (BYTE n 8)) 5)).alloc (.cells #[.slice (some ⟨w1.heap.size,0,none⟩) 8 8,.slice (some ⟨w.heap.size,0,none⟩) 32 32] 25)):=⟨_,rfl⟩
  have hXs:X.heap.size=w1.heap.size+1+1:=by rw [hX];simp
  have ct:Calls Tryz.prog 85 #[.int .u8 3,.slice (some ⟨w1.heap.size+1,0,none⟩) 2 2] X fun e w'=>∃ a' c',e=.returned (.slice a' 41 c')∧w'.ownsRow X.heap.size 5 1 (.slice a' 41 c') 41 (z01 (INTS (3 :: (BE8 n ++ (List.range 32).map r))))∧Below X.heap.size X w':=by
    have hh1:=zbt w1.drew n
    have hh2:Has (w1.drew.alloc (.cells (BARR 8 (BYTE n 8)) 5)) w.heap.size (UARR .u8 32 r) 24:=(show Has w1.drew w.heap.size (UARR .u8 32 r) 24 from U.out.2).alloc _
    have k:=z72 3 (by decide) _ 2 2 _ _ (zbu H.out (by simp) hh1 hh2) (fun p hp=>by simp only [List.mem_cons,List.not_mem_nil,or_false] at hp;rcases hp with rfl | rfl <;> (intro e;cases e)) (by rw [z7v];simp [BE8]) (by decide)
    have e41:(BE8 n ++ (List.range 32).map r).length+1=41:=by simp [BE8]
    rw [z7v,e41] at k
    have es:(w1.drew.alloc (.cells (BARR 8 (BYTE n 8)) 5)).heap.size=w1.heap.size+1:=by simp
    rw [hX]
    rw [es] at k
    exact k
  have HX:Aside (Below w.heap.size w X∧w.heap.size≤X.heap.size):=⟨by rw [hX];exact (U.out.1.drew.alloc U.out.1.size _).alloc (by have:=U.out.1.size;simp;omega) _,by rw [hXs];have:=U.out.1.size;omega⟩
  rw [hX] at ct
  go_region_held3 (fun _=>True) (trivial) (first | (go_at_call 113;refine (ci _).mono ?_;rintro e w4 ⟨rfl,rfl⟩) | (go_at_call 85;refine ct.mono ?_;rintro e w5 ⟨a5,c5,rfl,hown5,hb5⟩))
  rw [← hX] at hown5 hb5
  have S:Aside (w5.ownsRow w.heap.size 5 1 (.slice a5 41 c5) 41 (z01 (INTS (3 :: (BE8 n ++ (List.range 32).map r))))∧Below w.heap.size w w5):=⟨z0u hown5 HX.out.2,HX.out.1.trans (hb5.mono HX.out.2)⟩
  clear hown5 hb5 ct
  go_wp2
  go_ret
  exact ⟨a5,c5,rfl,S.out.1,S.out.2⟩
end Go.Proofs.YthpdlnbbbcgemaaGreatDoor.HX

namespace Go.Proofs.YthpdlnbbbcgemaaGreatDoor.HX
open Go.RowKit
set_option maxRecDepth 100000
theorem Has.whole {w:World} {g:Nat} {F:Nat→Nat} {k:IntKind} {n:Nat} {t:TypeId} (h:Has w g (UARR k n F) t):w.rangeAt g 0 (z09 k n F):=fun j v hv=>by
  have hj:j<n:=by have:=(List.getElem?_eq_some_iff.1 hv).1;rw [z0b] at this;exact this
  rw [z1E _ _ _ _ hj] at hv
  rw [Nat.zero_add,h.cell,z0a _ _ _ _ hj,hv]
theorem z3H {B:Nat} {w w':World} {g o:Nat} {cs:List Value} (h:w.rangeAt g o cs) (hb:Below B w w') (hg:g<B):w'.rangeAt g o cs:=fun j v hv=>(hb.cell (by exact hg)).trans (h j v hv)
theorem z8Q (d n:Nat) (F G:Nat→Nat) (w:World):∀ is:List Nat,(∀ i∈is,i<n)→(Op.eqItems (d+1) 5 1 (UARR .u8 n F) (UARR .u8 n G) is).run Tryz.prog w=.ok (is.all fun i=>F i == G i) w
  | [],_=>by simp [Op.eqItems]
  | i :: is,h=>by
    have hp:Tryz.prog.plainKey 5=true:=by kernel_rfl
    have hi:i<n:=h i (by simp)
    have h1:=run_part_plain (P:=Tryz.prog) w hp (z0a .u8 n F i hi)
    have h2:=run_part_plain (P:=Tryz.prog) w hp (z0a .u8 n G i hi)
    have h3:=run_equalIn_int (P:=Tryz.prog) w d 5 .u8 .u8 (F i:Nat) (G i:Nat) Tryz.underlying5
    have ih:=z8Q d n F G w is (fun j hj=>h j (by simp [hj]))
    rw [Op.eqItems,Nat.mul_one]
    simp only [Sem.run_bind,h1,h2,h3,Result.andThen_ok]
    by_cases e:F i=G i
    · simp [e,ih]
    · have e2:((F i:Int) == (G i:Int))=false:=by simp;omega
      simp [e2,e]
theorem z30 (F G:Nat→Nat) (w:World):(Op.equalIn 10000 24 (.agg (UARR .u8 32 F)) (.agg (UARR .u8 32 G))).run Tryz.prog w=.ok ((List.range 32).all fun i=>F i == G i) w:=by
  obtain ⟨i8,hi,_⟩:=Option.map_eq_some_iff.1 z0R
  rw [run_equalIn_array (P:=Tryz.prog) w 9999 (UARR .u8 32 F) (UARR .u8 32 G) Tryz.underlying24 hi]
  have hc:Tryz.prog.cellsOf 5=1:=by kernel_rfl
  rw [hc]
  exact z8Q 9998 32 F G w _ (fun i hi=>by simpa using hi)
end Go.Proofs.YthpdlnbbbcgemaaGreatDoor.HX

namespace Go.Proofs.YthpdlnbbbcgemaaGreatDoor.HX
open Go.RowKit
set_option maxRecDepth 100000
theorem z37 {ops:Array Oper} {o:Oper} {a:Act} {K:Act→World→Prop} {Q:Exit→Act→World→Prop} {E:Prop} (w:World) (hgd:o.guard=none) (s x:Operand)
    (ho:o.op=.call {callee:=.builtin .append,args:=#[s,x],argTypes:=#[25,25]})
    (base:Nat) (v:Value) (n:Nat) (xs:List Int) (hs:a.eval s=v) (hown:w.ownsRow base 5 1 v n (z01 xs))
    (b off m c:Nat) (l:List Int) (hx:a.eval x=.slice (some ⟨b,off,none⟩) m c) (hB:Bytes w (some ⟨b,off,none⟩) m l)
    (hm:0<m) (hb:n+m≤140737488355328) (hbase:base≤w.heap.size) (N:Nat) (hN:n+m=N)
    (h:∀ g cap w',w'.ownsRow base 5 1 (.slice (some ⟨g,0,none⟩) N cap) N (z01 (xs ++ l))→w.grownBy w' v.ownBlock→(v.ownBlock=some g∨g=w.heap.size)→g<w'.heap.size→K (a.put o.dst (.slice (some ⟨g,0,none⟩) N cap)) w'):if Region.wanted o (yielded ops a.tmps)=true then Oper.wp Tryz.prog o a w K Q else E:=by
  subst hN
  obtain ⟨i,hi,hz,hs1,hby⟩:=z1l
  obtain ⟨b',off',e,_,hc⟩:=hB.2.1 hm
  simp only [Option.some.injEq,Addr.mk.injEq] at e
  obtain ⟨rfl,rfl,_⟩:=e
  refine step_append_lies w hgd s x 25 ho base 5 i (.int .u8 0) 1 1 Tryz.underlying25 hi hz hs1 hby rfl (by decide) v n (z01 xs) hs hown ⟨b,off,none⟩ m c (z01 l) hx (by simp [z01,hB.1]) ?_ (z1n l) hm (by simp only [maxLen];omega) (by omega) hbase w.heap.size rfl ?_
  · intro j u hj
    have hjl:j<l.length:=by
      have:=(List.getElem?_eq_some_iff.1 hj).1
      simpa [z01] using this
    rw [z0A l j hjl] at hj
    rw [z14,hc j (by rw [← hB.1];exact hjl)]
    exact hj
  · intro g cap w' h1 h2 h3 h4
    rw [← z0x] at h1
    exact h g cap w' h1 h2 h3 h4
theorem zcV {w:World} {base n c:Nat} {a:Option Addr} {l:List Nat} (h:w.ownsRow base 5 1 (.slice a n c) n (z01 (INTS l))) (hl:Small8 l):Text w a n l:=Text.of_bytes (z0X h (z1x hl)).1
theorem zev {w:World} {base n c s:Nat} {a:Option Addr} {t:TypeId} {xs:List Value} (h:w.ownsRow base t s (.slice a n c) n xs):a=none→c=0:=fun ha=>by
  rcases h.2 with ⟨hv,_⟩ | ⟨g,cap,cur,hv,_⟩
  · simp at hv
    exact hv.2.2
  · subst ha
    simp at hv
theorem zbv {w:World} {a:Option Addr} {n c:Nat} {l:List Nat} (hA:Text w a n l) (hnc:n≤c) (hx:∀ x,a=some x→x.block<w.heap.size):Parts (w.alloc (.cells #[.slice a n c] 25)) (some ⟨w.heap.size,0,none⟩) 1 [⟨a,n,c,l⟩]:=
  ⟨rfl,fun _=>⟨w.heap.size,0,rfl,by simp,fun i p hp=>by
      have hi:i<1:=(List.getElem?_eq_some_iff.1 hp).1
      obtain rfl:i=0:=by omega
      simp only [List.getElem?_cons_zero,Option.some.injEq] at hp
      subst hp
      rw [World.cell?_alloc_at _ _ _ _ rfl]
      rfl⟩,fun p hp=>by
      simp only [List.mem_singleton] at hp
      subst hp
      exact ⟨hA.below ((Below.refl _ _).alloc (Nat.le_refl _) _),hnc,fun x e=>by have:=hx x e;simp;omega⟩⟩
theorem z4H {w:World} {B n c:Nat} {a:Option Addr} {l:List Nat} (h:w.ownsRow B 5 1 (.slice a n c) n (z01 (INTS l))) (hs:Small8 l):Parts (w.alloc (.cells #[.slice a n c] 25)) (some ⟨w.heap.size,0,none⟩) 1 [⟨a,n,c,l⟩]∧(a=none→c=0):=by
  refine ⟨zbv (zcV h hs) ?_ (fun x e=>?_),zev h⟩
  · exact (z0X h (z1x hs)).2
  · subst e
    rcases h.2 with ⟨e,_⟩ | ⟨g,c2,cur,e,_,hg,_⟩
    · simp at e
    · simp only [Value.slice.injEq,Option.some.injEq] at e
      rw [e.1]
      exact (Array.getElem?_eq_some_iff.1 hg).1
theorem z4f (a:Option Addr) (n c:Nat) (l:List Nat):JOIN [⟨a,n,c,l⟩]=l:=by simp [JOIN]
theorem z1N {x:Nat} {l:List Nat} (hx:x<256) (h:Small8 l):Small8 (x :: l):=fun y hy=>by
  rcases List.mem_cons.1 hy with rfl | hy
  · exact hx
  · exact h y hy
theorem z24 {l k:List Nat} (h1:Small8 l) (h2:Small8 k):Small8 (l ++ k):=fun y hy=>by
  rcases List.mem_append.1 hy with hy | hy
  · exact h1 y hy
  · exact h2 y hy
theorem z15 {f:Nat→Nat} (h:∀ i,f i<256):Small8 ((List.range 32).map f):=fun y hy=>by
  obtain ⟨i,_,rfl⟩:=List.mem_map.1 hy
  exact h i
theorem z7w (n:Nat):Small8 (BE8 n):=fun y hy=>by
  obtain ⟨i,_,rfl⟩:=List.mem_map.1 hy
  exact Nat.mod_lt _ (by decide)
theorem z5J {w:World} (d:Int) {B n c:Nat} {a:Option Addr} {l:List Nat} (h:w.ownsRow B 5 1 (.slice a n c) n (z01 (INTS l))) (hs:Small8 l) (hl:l.length<5000) (hT:Tabled w):
    Calls Tryz.prog 26 #[.int .i64 d,.slice (some ⟨w.heap.size,0,none⟩) 1 1] (w.alloc (.cells #[.slice a n c] 25)) fun e w'=>e=.returned (.agg (UARR .u8 32 (z08 d l)))∧Below (w.alloc (.cells #[.slice a n c] 25)).heap.size (w.alloc (.cells #[.slice a n c] 25)) w':=by
  have:=zcS d _ 1 1 _ _ (z4H h hs).1 (hT.below ((Below.refl _ _).alloc (Nat.le_refl _) _)) (by rw [z4f];omega) (by decide)
  rw [z4f] at this
  exact this
theorem zfN (d:Int) (l r:Nat→Nat) (hl:∀ i,l i<256) (hr:∀ i,r i<256) (w:World) (hT:Tabled w):Calls Tryz.prog 104 #[.int .i64 d,.agg (UARR .u8 32 l),.agg (UARR .u8 32 r)] w fun e w'=>e=.returned (.agg (UARR .u8 32 (z08 d (1 :: ((List.range 32).map l ++ (List.range 32).map r)))))∧Below w.heap.size w w':=by
  have hz:=z18
  have ct:=fun W=>z5m l r hl hr W
  have H:Aside ((∀ i,l i<256)∧(∀ i,r i<256)∧Tabled w):=⟨hl,hr,hT⟩
  obtain ⟨W,zb,lb,rb,hW,hzb,hlb,hrb,R,h4,h5⟩:∃ W zb lb rb,W=((w.alloc (.cells (UARR .u8 32 l) 24)).alloc (.cells (UARR .u8 32 r) 24)).alloc (.cells (UARR .u8 32 fun _=>0) 24)∧zb=w.heap.size+1+1∧lb=w.heap.size∧rb=w.heap.size+1∧Aside (Has W zb (UARR .u8 32 fun _=>0) 24∧Below w.heap.size w W∧w.heap.size≤zb)∧W.rangeAt lb 0 (z09 .u8 32 l)∧W.rangeAt rb 0 (z09 .u8 32 r):=by
    refine ⟨_,_,_,_,rfl,rfl,rfl,rfl,⟨Has.at _ _ _ (by simp),(((Below.refl _ _).alloc (Nat.le_refl _) _).alloc (by simp) _).alloc (by simp;omega) _,by omega⟩,(((Has.new w _ _).alloc _).alloc _).whole,((Has.at _ _ _ (by simp)).alloc _).whole⟩
  clear hl hr hT
  go_enter Tryz.func104,Tryz.ntmps104
  go_wp2_with (first
    | (rw [← hW];refine wpList_load_mid rfl 24 (.tmp 4) rfl w.heap.size 0 rfl (z09 .u8 32 l) (.array 32 5) (by rw [← hlb];exact h4) Tryz.underlying24 rfl (by rw [z0b];exact z0P) ?_;rw [← z0B])
    | (refine wpList_load_mid rfl 24 (.tmp 5) rfl (w.heap.size+1) 0 rfl (z09 .u8 32 r) (.array 32 5) (by rw [← hrb];exact h5) Tryz.underlying24 rfl (by rw [z0b];exact z0P) ?_;rw [← z0B]))
  rw [← hzb]
  refine (ct _).mono ?_
  rintro e w2 ⟨a',c',rfl,hown,hb⟩
  rw [← hW] at hown hb
  clear ct h4 h5 hW hzb hlb hrb
  have S:Aside (Has w2 zb (UARR .u8 32 fun _=>0) 24∧Below w.heap.size w w2):=⟨R.out.1.keep hb,R.out.2.1.trans (hb.mono R.out.2.1.size)⟩
  have cs:=z5J d hown (z1N (by decide) (z24 (z15 H.out.1) (z15 H.out.2.1))) (by simp) (H.out.2.2.below S.out.2)
  have Z:Aside (w.heap.size≤zb):=R.out.2.2
  clear hown hb R
  go_wp2_with fail
  refine cs.mono ?_
  rintro e w3 ⟨rfl,hb3⟩
  have hb4:Below w2.heap.size w2 w3:=((Below.refl _ _).alloc (Nat.le_refl _) _).trans (hb3.mono (by simp))
  have S2:Aside (Has w3 zb (UARR .u8 32 fun _=>0) 24∧Below w.heap.size w w3):=⟨S.out.1.keep hb4,S.out.2.trans (hb4.mono S.out.2.size)⟩
  clear cs hb3 hb4 S
  go_wp2_with (first
    | (refine wpList_store_row rfl 24 _ _ rfl _ _ rfl rfl _ _ S2.out.1 (z04 _) (by rw [z03,z03]) (z0n _ _ _) ?_))
  refine bodyPost_ret (v:=.agg (UARR .u8 32 (z08 d (1 :: ((List.range 32).map l ++ (List.range 32).map r))))) ?_ rfl ⟨rfl,z0d S2.out.2 Z.out _⟩
  exact results_cell_row rfl _ _ zb 24 _ (0,0) _ rfl (S2.out.1.row _) Tryz.underlying24 rfl (z04 _)
theorem zfO (d:Int) (l r:Nat→Nat) (hl:∀ i,l i<256) (hr:∀ i,r i<256) (w:World) (hT:Tabled w):Calls Tryz.prog 129 #[.int .i64 d,.agg (UARR .u8 32 l),.agg (UARR .u8 32 r)] w fun e w'=>e=.returned (.agg (UARR .u8 32 (z08 d (2 :: ((List.range 32).map l ++ (List.range 32).map r)))))∧Below w.heap.size w w':=by
  have hz:=z18
  have ct:=fun W=>z5n l r hl hr W
  have H:Aside ((∀ i,l i<256)∧(∀ i,r i<256)∧Tabled w):=⟨hl,hr,hT⟩
  obtain ⟨W,zb,lb,rb,hW,hzb,hlb,hrb,R,h4,h5⟩:∃ W zb lb rb,W=((w.alloc (.cells (UARR .u8 32 l) 24)).alloc (.cells (UARR .u8 32 r) 24)).alloc (.cells (UARR .u8 32 fun _=>0) 24)∧zb=w.heap.size+1+1∧lb=w.heap.size∧rb=w.heap.size+1∧Aside (Has W zb (UARR .u8 32 fun _=>0) 24∧Below w.heap.size w W∧w.heap.size≤zb)∧W.rangeAt lb 0 (z09 .u8 32 l)∧W.rangeAt rb 0 (z09 .u8 32 r):=by
    refine ⟨_,_,_,_,rfl,rfl,rfl,rfl,⟨Has.at _ _ _ (by simp),(((Below.refl _ _).alloc (Nat.le_refl _) _).alloc (by simp) _).alloc (by simp;omega) _,by omega⟩,(((Has.new w _ _).alloc _).alloc _).whole,((Has.at _ _ _ (by simp)).alloc _).whole⟩
  clear hl hr hT
  go_enter Tryz.func129,Tryz.ntmps129
  go_wp2_with (first
    | (rw [← hW];refine wpList_load_mid rfl 24 (.tmp 4) rfl w.heap.size 0 rfl (z09 .u8 32 l) (.array 32 5) (by rw [← hlb];exact h4) Tryz.underlying24 rfl (by rw [z0b];exact z0P) ?_;rw [← z0B])
    | (refine wpList_load_mid rfl 24 (.tmp 5) rfl (w.heap.size+1) 0 rfl (z09 .u8 32 r) (.array 32 5) (by rw [← hrb];exact h5) Tryz.underlying24 rfl (by rw [z0b];exact z0P) ?_;rw [← z0B]))
  rw [← hzb]
  refine (ct _).mono ?_
  rintro e w2 ⟨a',c',rfl,hown,hb⟩
  rw [← hW] at hown hb
  clear ct h4 h5 hW hzb hlb hrb
  have S:Aside (Has w2 zb (UARR .u8 32 fun _=>0) 24∧Below w.heap.size w w2):=⟨R.out.1.keep hb,R.out.2.1.trans (hb.mono R.out.2.1.size)⟩
  have cs:=z5J d hown (z1N (by decide) (z24 (z15 H.out.1) (z15 H.out.2.1))) (by simp) (H.out.2.2.below S.out.2)
  have Z:Aside (w.heap.size≤zb):=R.out.2.2
  clear hown hb R
  go_wp2_with fail
  refine cs.mono ?_
  rintro e w3 ⟨rfl,hb3⟩
  have hb4:Below w2.heap.size w2 w3:=((Below.refl _ _).alloc (Nat.le_refl _) _).trans (hb3.mono (by simp))
  have S2:Aside (Has w3 zb (UARR .u8 32 fun _=>0) 24∧Below w.heap.size w w3):=⟨S.out.1.keep hb4,S.out.2.trans (hb4.mono S.out.2.size)⟩
  clear cs hb3 hb4 S
  go_wp2_with (first
    | (refine wpList_store_row rfl 24 _ _ rfl _ _ rfl rfl _ _ S2.out.1 (z04 _) (by rw [z03,z03]) (z0n _ _ _) ?_))
  refine bodyPost_ret (v:=.agg (UARR .u8 32 (z08 d (2 :: ((List.range 32).map l ++ (List.range 32).map r))))) ?_ rfl ⟨rfl,z0d S2.out.2 Z.out _⟩
  exact results_cell_row rfl _ _ zb 24 _ (0,0) _ rfl (S2.out.1.row _) Tryz.underlying24 rfl (z04 _)
theorem zfP (d:Int) (n:Nat) (hn:n<2 ^ 64) (r:Nat→Nat) (hr:∀ i,r i<256) (w:World) (hT:Tabled w):Calls Tryz.prog 105 #[.int .i64 d,.int .u64 (n:Int),.agg (UARR .u8 32 r)] w fun e w'=>e=.returned (.agg (UARR .u8 32 (z08 d (3 :: (BE8 n ++ (List.range 32).map r)))))∧Below w.heap.size w w':=by
  have hz:=z18
  have ct:=fun W=>z5o n hn r hr W
  have H:Aside ((∀ i,r i<256)∧Tabled w):=⟨hr,hT⟩
  obtain ⟨W,zb,rb,hW,hzb,hrb,R,h5⟩:∃ W zb rb,W=(w.alloc (.cells (UARR .u8 32 r) 24)).alloc (.cells (UARR .u8 32 fun _=>0) 24)∧zb=w.heap.size+1∧rb=w.heap.size∧Aside (Has W zb (UARR .u8 32 fun _=>0) 24∧Below w.heap.size w W∧w.heap.size≤zb)∧W.rangeAt rb 0 (z09 .u8 32 r):=by
    refine ⟨_,_,_,rfl,rfl,rfl,⟨Has.at _ _ _ (by simp),((Below.refl _ _).alloc (Nat.le_refl _) _).alloc (by simp) _,by omega⟩,((Has.new w _ _).alloc _).whole⟩
  clear hn hr hT
  go_enter Tryz.func105,Tryz.ntmps105
  go_wp2_with (first
    | (rw [← hW];refine wpList_load_mid rfl 24 (.tmp 5) rfl w.heap.size 0 rfl (z09 .u8 32 r) (.array 32 5) (by rw [← hrb];exact h5) Tryz.underlying24 rfl (by rw [z0b];exact z0P) ?_;rw [← z0B]))
  rw [← hzb]
  refine (ct _).mono ?_
  rintro e w2 ⟨a',c',rfl,hown,hb⟩
  rw [← hW] at hown hb
  clear ct h5 hW hzb hrb
  have S:Aside (Has w2 zb (UARR .u8 32 fun _=>0) 24∧Below w.heap.size w w2):=⟨R.out.1.keep hb,R.out.2.1.trans (hb.mono R.out.2.1.size)⟩
  have cs:=z5J d hown (z1N (by decide) (z24 (z7w n) (z15 H.out.1))) (by simp [BE8]) (H.out.2.below S.out.2)
  have Z:Aside (w.heap.size≤zb):=R.out.2.2
  clear hown hb R
  go_wp2_with fail
  refine cs.mono ?_
  rintro e w3 ⟨rfl,hb3⟩
  have hb4:Below w2.heap.size w2 w3:=((Below.refl _ _).alloc (Nat.le_refl _) _).trans (hb3.mono (by simp))
  have S2:Aside (Has w3 zb (UARR .u8 32 fun _=>0) 24∧Below w.heap.size w w3):=⟨S.out.1.keep hb4,S.out.2.trans (hb4.mono S.out.2.size)⟩
  clear cs hb3 hb4 S
  go_wp2_with (first
    | (refine wpList_store_row rfl 24 _ _ rfl _ _ rfl rfl _ _ S2.out.1 (z04 _) (by rw [z03,z03]) (z0n _ _ _) ?_))
  refine bodyPost_ret (v:=.agg (UARR .u8 32 (z08 d (3 :: (BE8 n ++ (List.range 32).map r))))) ?_ rfl ⟨rfl,z0d S2.out.2 Z.out _⟩
  exact results_cell_row rfl _ _ zb 24 _ (0,0) _ rfl (S2.out.1.row _) Tryz.underlying24 rfl (z04 _)
end Go.Proofs.YthpdlnbbbcgemaaGreatDoor.HX

namespace Go.Proofs.YthpdlnbbbcgemaaGreatDoor
open Go.RowKit
set_option maxRecDepth 100000
def LST (f:Nat→Nat):List Int:=(List.range 32).map fun i=>((f i:Nat):Int)
def FNC (h:List Int) (i:Nat):Nat:=(h.getD i 0).toNat
def IsH (h:List Int):Prop:=h.length=32∧∀ x∈h,0≤x∧x≤255
theorem z6i (f:Nat→Nat):(LST f).length=32:=by simp [LST]
theorem z6j {f:Nat→Nat} (h:∀ i,f i<256):IsH (LST f):=⟨z6i f,fun x hx=>by
  obtain ⟨i,_,rfl⟩:=List.mem_map.1 hx
  have:=h i
  omega⟩
theorem z1r (f:Nat→Nat):HX.UARR .u8 32 f=(z01 (LST f)).toArray:=by
  unfold HX.UARR z01 LST
  rw [List.map_map]
  rfl
theorem z73 {h:List Int} (hh:IsH h):LST (FNC h)=h:=by
  apply List.ext_getElem (by rw [z6i,hh.1])
  intro i h1 h2
  simp only [LST,List.getElem_map,List.getElem_range,FNC]
  have:=hh.2 h[i] (List.getElem_mem h2)
  rw [List.getD_eq_getElem?_getD,List.getElem?_eq_getElem h2,Option.getD_some]
  omega
theorem z0z {h:List Int} (hh:IsH h):(z01 h).toArray=HX.UARR .u8 32 (FNC h):=by rw [z1r,z73 hh]
theorem z1c {h:List Int} (hh:IsH h) (i:Nat):FNC h i<256:=by
  unfold FNC
  by_cases hi:i<h.length
  · rw [List.getD_eq_getElem?_getD,List.getElem?_eq_getElem hi,Option.getD_some]
    have:=hh.2 h[i] (List.getElem_mem hi)
    omega
  · rw [List.getD_eq_getElem?_getD,List.getElem?_eq_none (by omega)]
    decide
def NATS (h:List Int):List Nat:=(List.range 32).map (FNC h)
def z0D (d:Int) (l r:List Int):List Int:=LST (HX.z08 d (1 :: (NATS l ++ NATS r)))
def z1j (d:Int) (l r:List Int):List Int:=LST (HX.z08 d (2 :: (NATS l ++ NATS r)))
def z0C (d:Int) (n:Nat) (r:List Int):List Int:=LST (HX.z08 d (3 :: (HX.BE8 n ++ NATS r)))
theorem z4g (d:Int) (l r:List Int):IsH (z0D d l r):=z6j fun i=>HX.z2C d _ _ i
theorem z5K (d:Int) (l r:List Int):IsH (z1j d l r):=z6j fun i=>HX.z2C d _ _ i
theorem z2D (d:Int) (n:Nat) (r:List Int):IsH (z0C d n r):=z6j fun i=>HX.z2C d _ _ i
theorem zew (d:Int) (l r:List Int) (hl:IsH l) (hr:IsH r) (w:World) (hT:HX.Tabled w):Calls Tryz.prog 104 #[.int .i64 d,.agg (z01 l).toArray,.agg (z01 r).toArray] w fun e w'=>e=.returned (.agg (z01 (z0D d l r)).toArray)∧Below w.heap.size w w':=by
  rw [z0z hl,z0z hr]
  refine (HX.zfN d (FNC l) (FNC r) (z1c hl) (z1c hr) w hT).mono ?_
  rintro e w' ⟨rfl,hb⟩
  exact ⟨by rw [z1r];rfl,hb⟩
theorem zex (d:Int) (l r:List Int) (hl:IsH l) (hr:IsH r) (w:World) (hT:HX.Tabled w):Calls Tryz.prog 129 #[.int .i64 d,.agg (z01 l).toArray,.agg (z01 r).toArray] w fun e w'=>e=.returned (.agg (z01 (z1j d l r)).toArray)∧Below w.heap.size w w':=by
  rw [z0z hl,z0z hr]
  refine (HX.zfO d (FNC l) (FNC r) (z1c hl) (z1c hr) w hT).mono ?_
  rintro e w' ⟨rfl,hb⟩
  exact ⟨by rw [z1r];rfl,hb⟩
theorem zey (d:Int) (n:Nat) (hn:n<2 ^ 64) (r:List Int) (hr:IsH r) (w:World) (hT:HX.Tabled w):Calls Tryz.prog 105 #[.int .i64 d,.int .u64 (n:Int),.agg (z01 r).toArray] w fun e w'=>e=.returned (.agg (z01 (z0C d n r)).toArray)∧Below w.heap.size w w':=by
  rw [z0z hr]
  refine (HX.zfP d n hn (FNC r) (z1c hr) w hT).mono ?_
  rintro e w' ⟨rfl,hb⟩
  exact ⟨by rw [z1r];rfl,hb⟩
end Go.Proofs.YthpdlnbbbcgemaaGreatDoor

namespace Go.Proofs.YthpdlnbbbcgemaaGreatDoor
open Go.RowKit
set_option maxRecDepth 100000
theorem zfQ {l k:List Int} {n:Nat} (hl:l.length=32*n) (hk:k.length=32*n) (h:∀ i,i<n→HSH l i=HSH k i):l=k:=by
  have e:∀ i,i≤n→l.take (32*i)=k.take (32*i):=by
    intro i
    induction i with
    | zero=>intro _;simp
    | succ i ih=>intro hi;rw [z3e,z3e,ih (by omega),h i (by omega)]
  have:=e n (Nat.le_refl _)
  rwa [List.take_of_length_le (by omega),List.take_of_length_le (by omega)] at this
end Go.Proofs.YthpdlnbbbcgemaaGreatDoor

namespace Go.Proofs.YthpdlnbbbcgemaaGreatDoor
open Go.RowKit
set_option maxRecDepth 100000
theorem zcW {w:World} {base g n cap:Nat} {l:List Int} {x:Int} (h:w.ownsRow base 5 1 (.slice (some ⟨g,0,none⟩) (n+1) cap) (n+1) (z01 (l ++ [x]))) (hl:l.length=n):w.ownsRow base 5 1 (.slice (some ⟨g,0,none⟩) n cap) n (z01 l)∧n+1≤cap∧w.cell? ⟨g,n,none⟩=some (.int .u8 x):=by
  have hc:=h.cellAt n (by omega)
  have hx:(z01 (l ++ [x]))[n]?=some (.int .u8 x):=by
    rw [← hl]
    simp [z01]
  rcases h.2 with ⟨e,_⟩ | ⟨g',cap',cur,e,hb,hg,h1,h2,h3,h4⟩
  · cases e
  · cases e
    refine ⟨⟨by rw [z01,List.length_map,hl,Nat.mul_one],.inr ⟨g,cap,cur,rfl,hb,hg,by omega,h2,h3,?_⟩⟩,h1,hc.trans hx⟩
    have h5:=congrArg (List.take (n*1)) h4
    rw [List.take_take,show min (n*1) ((n+1)*1)=n*1 by omega] at h5
    rw [h5,z0x,List.take_left' (by rw [z01,List.length_map,hl,Nat.mul_one])]
def z8R (w:World) (n:Nat) (l:List Int) (e:Ending) (w':World):Prop:=
  ∃ g cap,e=.returned (.slice (some ⟨g,0,none⟩) n cap)∧w'.ownsRow w.heap.size 5 1 (.slice (some ⟨g,0,none⟩) n cap) n (z01 l)∧n+1≤cap∧w'.cell? ⟨g,n,none⟩=some (.int .u8 171)∧g<w'.heap.size∧Below w.heap.size w w'
end Go.Proofs.YthpdlnbbbcgemaaGreatDoor

namespace Go.Proofs.YthpdlnbbbcgemaaGreatDoor
open Go.RowKit
set_option maxRecDepth 100000
theorem zcX {l k:List Int} {n:Nat} (hl:l.length=n) (hk:k.length=n) (h:∀ j,j<n→l.getD j 0=k.getD j 0):l=k:=by
  apply List.ext_getElem (by omega)
  intro i h1 h2
  have:=h i (by omega)
  simpa [List.getD,h1,h2] using this
set_option maxHeartbeats 1000000 in
theorem z1B (a b:Option Addr) (n m ca cb:Nat) (l k:List Int) (w:World) (hA:Bytes w a n l) (hB:Bytes w b m k) (hn:n≤1000000):Calls Tryz.prog 24 #[.slice a n ca,.slice b m cb] w fun e w'=>e=.returned (.bool (decide (l=k)))∧Below w.heap.size w w':=by
  by_cases hnm:n=m
  · subst hnm
    rcases Nat.eq_zero_or_pos n with h | h
    · subst h
      have hd:decide (l=k)=true:=by
        rw [List.eq_nil_of_length_eq_zero hA.1,List.eq_nil_of_length_eq_zero hB.1]
        rfl
      rw [hd]
      clear hA hB hd
      go_enter Tryz.func24,Tryz.ntmps24
      go_wp2
      refine wp_loop_rounds 1 ?_
      rw [rounds_succ]
      go_wp2
      go_ret
      exact ⟨rfl,Below.refl _ _⟩
    · obtain ⟨ba,oa,rfl,la,hca⟩:=hA.2.1 h
      obtain ⟨bb,ob,rfl,lb,hcb⟩:=hB.2.1 h
      have HC:Aside ((∀ i,i<n→w.cell? ⟨ba,oa+i,none⟩=some (.int .u8 (l.getD i 0)))∧(∀ i,i<n→w.cell? ⟨bb,ob+i,none⟩=some (.int .u8 (k.getD i 0)))∧ba<w.heap.size∧bb<w.heap.size∧l.length=n∧k.length=n∧n≤1000000):=⟨hca,hcb,la,lb,hA.1,hB.1,hn⟩
      clear hA hB hca hcb la lb hn
      obtain ⟨D,hD⟩:∃ D,D=decide (l=k):=⟨_,rfl⟩
      rw [← hD]
      have HD:Aside (D=decide (l=k)):=hD
      clear hD
      go_enter Tryz.func24,Tryz.ntmps24
      go_wp2
      go_loopg [5] n (fun g s5 wx=>∃ i:Nat,s5=.int .i64 i∧Aside (i+g=n∧Below w.heap.size w wx∧∀ j,j<i→l.getD j 0=k.getD j 0))
      case atStart=>exact ⟨0,rfl,by omega,Below.refl _ _,fun j hj=>by omega⟩
      case round=>
        obtain ⟨i,rfl,A⟩:=hrel
        cases gk with
        | zero=>
          obtain rfl:i=n:=by have:=A.out.1;omega
          have hlt:¬ (i:Int)<(i:Int):=by omega
          have hd:Aside (D=true):=by
            show D=true
            rw [HD.out,decide_eq_true_iff]
            exact zcX HC.out.2.2.2.2.1 HC.out.2.2.2.2.2.1 A.out.2.2
          clear HD HC
          go_wp2
          go_ret
          exact ⟨by rw [hd.out];rfl,A.out.2.1⟩
        | succ g=>
          obtain ⟨hig,hbel,hbef⟩:=A.out
          have hlt:(i:Int)<(n:Int):=by omega
          have h1:wr.cell? ⟨ba,oa+i,none⟩=some (.int .u8 (l.getD i 0)):=(hbel.cell (by exact HC.out.2.2.1)).trans (HC.out.1 i (by omega))
          have h2:wr.cell? ⟨bb,ob+i,none⟩=some (.int .u8 (k.getD i 0)):=(hbel.cell (by exact HC.out.2.2.2.1)).trans (HC.out.2.1 i (by omega))
          have E1:Aside (wrap64 ((i:Int)+1)=((i+1:Nat):Int)):=by have:=HC.out.2.2.2.2.2.2;show wrap64 ((i:Int)+1)=((i+1:Nat):Int);unfold wrap64;omega
          by_cases he:l.getD i 0=k.getD i 0
          · have B:Aside (i+1+g=n∧Below w.heap.size w wr∧∀ j,j<i+1→l.getD j 0=k.getD j 0):=⟨by omega,hbel,fun j hj=>by
              by_cases e:j=i
              · rw [e];exact he
              · exact hbef j (by omega)⟩
            rw [← he] at h2
            clear he hig hbel hbef A HD HC
            generalize l.getD i 0=v at h1 h2
            have e1:=E1.out
            go_wp2
            go_quiet (fail)
            go_wp2
            go_roundg g
            case measure=>exact Nat.lt_succ_self _
            case rel=>exact ⟨i+1,by first | rfl | (rw [E1.out]),B.out.1,below_drewN B.out.2.1 _,B.out.2.2⟩
          · have hd:Aside (D=false):=by
              show D=false
              rw [HD.out,decide_eq_false_iff_not]
              intro e
              rw [e] at he
              exact he rfl
            have Z:Aside (Below w.heap.size w wr):=hbel
            clear hig hbel hbef A HD HC E1
            generalize l.getD i 0=v1 at h1 he
            generalize k.getD i 0=v2 at h2 he
            go_wp2
            go_quiet (fail)
            go_wp2
            go_ret
            exact ⟨by rw [hd.out];rfl,below_drewN Z.out _⟩
  · have hne:¬ (n:Int)=(m:Int):=by omega
    have hd:decide (l=k)=false:=by
      rw [decide_eq_false_iff_not]
      intro e
      rw [e] at hA
      exact hnm (hA.1.symm.trans hB.1)
    rw [hd]
    clear hA hB hd
    go_enter Tryz.func24,Tryz.ntmps24
    go_wp2
    go_ret
    exact ⟨rfl,Below.refl _ _⟩
theorem Flat.none_nil {w:World} {n:Nat} {l:List Int} (h:Flat w none n l):n=0∧l=[]:=by
  have h0:n=0:=by
    rcases Nat.eq_zero_or_pos n with h0 | h0
    · exact h0
    · obtain ⟨_,_,e,_⟩:=h.2.1 h0
      cases e
  subst h0
  exact ⟨rfl,List.eq_nil_of_length_eq_zero h.1⟩
theorem z31 {w:World} {B n:Nat} {v:Value} {xs:List Value} (h:w.ownsRow B 24 32 v n xs):∃ a c,v=.slice a n c∧n≤c∧(0<n→∃ g,a=some ⟨g,0,none⟩):=by
  rcases h.2 with ⟨rfl,h0⟩ | ⟨g,cap,cur,rfl,_,_,h1,_⟩
  · subst h0
    exact ⟨none,0,rfl,Nat.le_refl _,fun h=>by omega⟩
  · exact ⟨_,_,rfl,h1,fun _=>⟨g,rfl⟩⟩
theorem zbw {ops:Array Oper} {rest:List Oper} {o:Oper} {a:Act} {Q:Exit→Act→World→Prop} (w:World) (hgd:o.guard=none) (s x:Operand)
    (ho:o.op=.call {callee:=.builtin .append,args:=#[s,x],argTypes:=#[40,40]})
    (base:Nat) (v:Value) (n:Nat) (xs:List Value) (hs:a.eval s=v) (hown:w.ownsRow base 24 32 v n xs)
    (ad:Option Addr) (m c:Nat) (l:List Int) (hx:a.eval x=.slice ad m c) (hL:Flat w ad m l) (hc:ad=none→c=0)
    (hb:n+m≤100000) (hbase:base≤w.heap.size)
    (hh:∀ a' c' w',w'.ownsRow base 24 32 (.slice a' (n+m) c') (n+m) (xs ++ z01 l)→w.grownBy w' v.ownBlock→wpList Tryz.prog ops Q rest (a.put o.dst (.slice a' (n+m) c')) w'):wpList Tryz.prog ops Q (o :: rest) a w:=by
  obtain ⟨i,hi,hz,hs1,hby⟩:=info_parts z22
  cases ad with
  | none=>
    obtain rfl:=hc rfl
    obtain ⟨rfl,rfl⟩:=hL.none_nil
    refine wpList_append_own_none hgd s x 40 ho base 24 i 32 Tryz.underlying40 hi v n xs hs hown hx ?_
    obtain ⟨a',c',rfl,_,_⟩:=z31 hown
    have:=hh a' c' w (by simpa [z01] using hown) (z2Y _ _)
    simpa using this
  | some ad=>
    have hcells:∀ j u,(z01 l)[j]?=some u→w.cell? (ad.add j)=some u:=by
      intro j u hu
      have hj:j<l.length:=by
        have:=(List.getElem?_eq_some_iff.1 hu).1
        simpa [z01] using this
      have hl:=hL.1
      obtain ⟨g,o',e,_,hc'⟩:=hL.2.1 (by omega)
      cases e
      rw [z14,hc' j (by omega),← hu,z0A l j hj]
    refine wpList_append_own w hgd s x 40 ho base 24 i _ 32 32 Tryz.underlying40 hi hz hs1 hby rfl (by decide) v n xs hs hown ad m c (z01 l) hx (by rw [z01,List.length_map,hL.1];omega) hcells (z1n l) (by simp only [maxLen];omega) (by omega) hbase ?_
    intro v' w' h1 h2 _
    obtain ⟨a',c',rfl,_,_⟩:=z31 h1
    exact hh a' c' w' h1 h2
theorem z9Q (w:World):(w.alloc (.cells #[] 24)).ownsRow w.heap.size 24 32 (.slice (some ⟨w.heap.size,0,none⟩) 0 0) 0 []:=
  World.ownsRow_lit w #[] 0 (Nat.le_refl _) (by simp [maxLen]) rfl
end Go.Proofs.YthpdlnbbbcgemaaGreatDoor
