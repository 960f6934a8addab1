/- Texts of ManyAccepts, one behind the other: HashPairTexts, HashRootText, HashEq, HashSumPlain, NumByteCalls, NumAppend. -/
import Derived.ChangeKeysEq
import Derived.Deep.RegionHeldLaw
import Derived.Deep.RegionHeld3
import Derived.Deep.AppendLies
import Derived.Laws.AppendOwnNone
import Derived.Test.YtjkjlblongeljaaGreatDoorManyAcceptsP8
namespace Go.Proofs.YtjkjlblongeljaaGreatDoor.HX
open Go.RowKit
set_option maxRecDepth 100000
theorem z0i {w:World} {base base':Nat} {t:TypeId} {s:Nat} {v:Value} {n:Nat} {xs:List Value} (h:w.ownsRow base t s v n xs) (hb:base'≤base):w.ownsRow base' t s v n xs:=
  ⟨h.1,h.2.imp id fun ⟨g,c,cur,a,b,r⟩=>⟨g,c,cur,a,Nat.le_trans hb b,r⟩⟩
theorem z3m (b:Nat) (w:World):(Instr.sliceAt 35 (.pointer (some ⟨b,0,none⟩)) none none none).run Tryz.prog w=.ok (.slice (some ⟨b,0,none⟩) 32 32) w:=by
  have hn:Tryz.prog.arrayLen 35=32:=by kernel_rfl
  rw [run_sliceAt_array_all w 35 ⟨b,0,none⟩ (by kernel_rfl),hn]
  have he:Tryz.prog.elem 35=5:=by kernel_rfl
  obtain ⟨i8,hi,h8⟩:=Option.map_eq_some_iff.1 z0S
  simp only [Prod.mk.injEq] at h8
  rw [he]
  simp [sizeOf,typeInfo,hi,h8.2.1,slicedAt,Addr.add]
theorem Has.text {w:World} {g:Nat} {f:Nat→Nat} {t:TypeId} (h:Has w g (UARR .u8 32 f) t) (hf:∀ i,f i<256):Text w (some ⟨g,0,none⟩) 32 ((List.range 32).map f):=
  ⟨by simp,fun _=>⟨g,0,rfl,h.lt,fun i hi=>by rw [Nat.zero_add,h.cell,z0h _ _ _ _ hi,List.getD_eq_getElem?_getD,List.getElem?_map,List.getElem?_range hi];rfl⟩,fun x hx=>by obtain ⟨i,_,rfl⟩:=List.mem_map.1 hx;exact hf i⟩
theorem z6D {w:World} {l r:Nat→Nat} {g h:Nat} {t u:TypeId} (hl:∀ i,l i<256) (hr:∀ i,r i<256) (h1:Has w g (UARR .u8 32 l) t) (h2:Has w h (UARR .u8 32 r) u):Parts (w.alloc (.cells #[.slice (some ⟨g,0,none⟩) 32 32,.slice (some ⟨h,0,none⟩) 32 32] 53)) (some ⟨w.heap.size,0,none⟩) 2 [⟨some ⟨g,0,none⟩,32,32,(List.range 32).map l⟩,⟨some ⟨h,0,none⟩,32,32,(List.range 32).map r⟩]:=
  ⟨rfl,fun _=>⟨w.heap.size,0,rfl,by simp,fun i p hp=>by
    have hi:i<2:=(List.getElem?_eq_some_iff.1 hp).1
    rw [World.cell?_alloc_at _ _ _ _ rfl]
    have h2:i=0∨i=1:=by omega
    rcases h2 with rfl | rfl <;> (simp at hp;subst hp;rfl)⟩,fun p hp=>by
    simp only [List.mem_cons,List.not_mem_nil,or_false] at hp
    rcases hp with rfl | rfl
    · exact ⟨(h1.alloc _).text hl,Nat.le_refl _,fun x e=>by simp only [Option.some.injEq] at e;rw [← e];exact (h1.alloc _).lt⟩
    · exact ⟨(h2.alloc _).text hr,Nat.le_refl _,fun x e=>by simp only [Option.some.injEq] at e;rw [← e];exact (h2.alloc _).lt⟩⟩
theorem z3J (l r:Nat→Nat) (g h:Nat):JOIN [⟨some ⟨g,0,none⟩,32,32,(List.range 32).map l⟩,⟨some ⟨h,0,none⟩,32,32,(List.range 32).map r⟩]=(List.range 32).map l ++ (List.range 32).map r:=by simp [JOIN]
theorem z8D (l r:Nat→Nat) (hl:∀ i,l i<256) (hr:∀ i,r i<256) (w:World):Calls Tryz.prog 56 #[.agg (UARR .u8 32 l),.agg (UARR .u8 32 r)] w fun e w'=>
    ∃ a' c',e=.returned (.slice a' 65 c')∧w'.ownsRow w.heap.size 5 1 (.slice a' 65 c') 65 (z00 (INTS (1 :: ((List.range 32).map l ++ (List.range 32).map r))))∧Below w.heap.size w w':=by
  have hs32:=z3m
  have H:Aside ((∀ i,l i<256)∧(∀ i,r i<256)):=⟨hl,hr⟩
  clear hl hr
  go_enter Tryz.func56,Tryz.ntmps56
  go_wp2_with fail
  have U:Aside (Below w.heap.size w ((w.alloc (.cells (UARR .u8 32 l) 35)).alloc (.cells (UARR .u8 32 r) 35))∧Has ((w.alloc (.cells (UARR .u8 32 l) 35)).alloc (.cells (UARR .u8 32 r) 35)) w.heap.size (UARR .u8 32 l) 35∧Has ((w.alloc (.cells (UARR .u8 32 l) 35)).alloc (.cells (UARR .u8 32 r) 35)) (w.heap.size+1) (UARR .u8 32 r) 35):=⟨((Below.refl _ _).alloc (Nat.le_refl _) _).alloc (by simp) _,(Has.new w _ _).alloc _,Has.at _ _ _ (by simp)⟩
  generalize (w.alloc (.cells (UARR .u8 32 l) 35)).alloc (.cells (UARR .u8 32 r) 35)=w1 at *
  generalize hh:w.heap.size+1=h at *
  obtain ⟨X,hX⟩:∃ X,X=(w1.alloc (.cells #[.slice (some ⟨w.heap.size,0,none⟩) 32 32,.slice (some ⟨h,0,none⟩) 32 32] 53)).drew:=⟨_,rfl⟩
  have hXs:X.heap.size=w1.heap.size+1:=by rw [hX];simp [World.drew]
  have ct:Calls Tryz.prog 98 #[.int .u8 1,.slice (some ⟨w1.heap.size,0,none⟩) 2 2] X fun e w'=>∃ a' c',e=.returned (.slice a' 65 c')∧w'.ownsRow X.heap.size 5 1 (.slice a' 65 c') 65 (z00 (INTS (1 :: ((List.range 32).map l ++ (List.range 32).map r))))∧Below X.heap.size X w':=by
    have hh1:Has w1.drew w.heap.size (UARR .u8 32 l) 35:=U.out.2.1
    have hh2:Has w1.drew h (UARR .u8 32 r) 35:=U.out.2.2
    have k:=z66 1 (by decide) _ 2 2 _ _ (z6D H.out.1 H.out.2 hh1 hh2) (fun p hp=>by simp only [List.mem_cons,List.not_mem_nil,or_false] at hp;rcases hp with rfl | rfl <;> (intro e;cases e)) (by rw [z3J];simp) (by decide)
    have e65:((List.range 32).map l ++ (List.range 32).map r).length+1=65:=by simp
    rw [z3J,e65] at k
    rw [hX]
    exact k
  have HX:Aside (Below w.heap.size w X∧w.heap.size≤X.heap.size):=⟨by rw [hX];exact (U.out.1.alloc U.out.1.size _).drew,by rw [hXs];have:=U.out.1.size;omega⟩
  rw [hX] at ct
  go_region_held3 (fun _=>True) (trivial) (first | (go_at_call 98;refine ct.mono ?_;rintro e w5 ⟨a5,c5,rfl,hown5,hb5⟩))
  rw [← hX] at hown5 hb5
  have S:Aside (w5.ownsRow w.heap.size 5 1 (.slice a5 65 c5) 65 (z00 (INTS (1 :: ((List.range 32).map l ++ (List.range 32).map r))))∧Below w.heap.size w w5):=⟨z0i hown5 HX.out.2,HX.out.1.trans (hb5.mono HX.out.2)⟩
  clear hown5 hb5 ct
  go_wp2
  go_ret
  exact ⟨a5,c5,rfl,S.out.1,S.out.2⟩
theorem z8E (l r:Nat→Nat) (hl:∀ i,l i<256) (hr:∀ i,r i<256) (w:World):Calls Tryz.prog 127 #[.agg (UARR .u8 32 l),.agg (UARR .u8 32 r)] w fun e w'=>
    ∃ a' c',e=.returned (.slice a' 65 c')∧w'.ownsRow w.heap.size 5 1 (.slice a' 65 c') 65 (z00 (INTS (2 :: ((List.range 32).map l ++ (List.range 32).map r))))∧Below w.heap.size w w':=by
  have hs32:=z3m
  have H:Aside ((∀ i,l i<256)∧(∀ i,r i<256)):=⟨hl,hr⟩
  clear hl hr
  go_enter Tryz.func127,Tryz.ntmps127
  go_wp2_with fail
  have U:Aside (Below w.heap.size w ((w.alloc (.cells (UARR .u8 32 l) 35)).alloc (.cells (UARR .u8 32 r) 35))∧Has ((w.alloc (.cells (UARR .u8 32 l) 35)).alloc (.cells (UARR .u8 32 r) 35)) w.heap.size (UARR .u8 32 l) 35∧Has ((w.alloc (.cells (UARR .u8 32 l) 35)).alloc (.cells (UARR .u8 32 r) 35)) (w.heap.size+1) (UARR .u8 32 r) 35):=⟨((Below.refl _ _).alloc (Nat.le_refl _) _).alloc (by simp) _,(Has.new w _ _).alloc _,Has.at _ _ _ (by simp)⟩
  generalize (w.alloc (.cells (UARR .u8 32 l) 35)).alloc (.cells (UARR .u8 32 r) 35)=w1 at *
  generalize hh:w.heap.size+1=h at *
  obtain ⟨X,hX⟩:∃ X,X=(w1.alloc (.cells #[.slice (some ⟨w.heap.size,0,none⟩) 32 32,.slice (some ⟨h,0,none⟩) 32 32] 53)).drew:=⟨_,rfl⟩
  have hXs:X.heap.size=w1.heap.size+1:=by rw [hX];simp [World.drew]
  have ct:Calls Tryz.prog 98 #[.int .u8 2,.slice (some ⟨w1.heap.size,0,none⟩) 2 2] X fun e w'=>∃ a' c',e=.returned (.slice a' 65 c')∧w'.ownsRow X.heap.size 5 1 (.slice a' 65 c') 65 (z00 (INTS (2 :: ((List.range 32).map l ++ (List.range 32).map r))))∧Below X.heap.size X w':=by
    have hh1:Has w1.drew w.heap.size (UARR .u8 32 l) 35:=U.out.2.1
    have hh2:Has w1.drew h (UARR .u8 32 r) 35:=U.out.2.2
    have k:=z66 2 (by decide) _ 2 2 _ _ (z6D H.out.1 H.out.2 hh1 hh2) (fun p hp=>by simp only [List.mem_cons,List.not_mem_nil,or_false] at hp;rcases hp with rfl | rfl <;> (intro e;cases e)) (by rw [z3J];simp) (by decide)
    have e65:((List.range 32).map l ++ (List.range 32).map r).length+1=65:=by simp
    rw [z3J,e65] at k
    rw [hX]
    exact k
  have HX:Aside (Below w.heap.size w X∧w.heap.size≤X.heap.size):=⟨by rw [hX];exact (U.out.1.alloc U.out.1.size _).drew,by rw [hXs];have:=U.out.1.size;omega⟩
  rw [hX] at ct
  go_region_held3 (fun _=>True) (trivial) (first | (go_at_call 98;refine ct.mono ?_;rintro e w5 ⟨a5,c5,rfl,hown5,hb5⟩))
  rw [← hX] at hown5 hb5
  have S:Aside (w5.ownsRow w.heap.size 5 1 (.slice a5 65 c5) 65 (z00 (INTS (2 :: ((List.range 32).map l ++ (List.range 32).map r))))∧Below w.heap.size w w5):=⟨z0i hown5 HX.out.2,HX.out.1.trans (hb5.mono HX.out.2)⟩
  clear hown5 hb5 ct
  go_wp2
  go_ret
  exact ⟨a5,c5,rfl,S.out.1,S.out.2⟩
end Go.Proofs.YtjkjlblongeljaaGreatDoor.HX

namespace Go.Proofs.YtjkjlblongeljaaGreatDoor.HX
open Go.RowKit
set_option maxRecDepth 100000
theorem zax (w:World) (n:Nat):Text (w.alloc (.cells (BARR 8 (BYTE n 8)) 5)) (some ⟨w.heap.size,0,none⟩) 8 (BE8 n):=
  Text.of_bytes (z2y w 8 (BYTE n 8) (INTS (BE8 n)) (by rw [INTS,List.length_map,z5z]) (fun i hi=>by
      rw [z2V]
      unfold BYTE BE8
      rw [List.getD_eq_getElem?_getD,List.getElem?_map,List.getElem?_range hi]
      rfl) (z1O (z4h n)))
theorem zay {w:World} {n:Nat} {r:Nat→Nat} {g h:Nat} {t:TypeId} (hr:∀ i,r i<256) (hg:g<w.heap.size) (h1:Text w (some ⟨g,0,none⟩) 8 (BE8 n)) (h2:Has w h (UARR .u8 32 r) t):Parts (w.alloc (.cells #[.slice (some ⟨g,0,none⟩) 8 8,.slice (some ⟨h,0,none⟩) 32 32] 53)) (some ⟨w.heap.size,0,none⟩) 2 [⟨some ⟨g,0,none⟩,8,8,BE8 n⟩,⟨some ⟨h,0,none⟩,32,32,(List.range 32).map r⟩]:=
  ⟨rfl,fun _=>⟨w.heap.size,0,rfl,by simp,fun i p hp=>by
    have hi:i<2:=(List.getElem?_eq_some_iff.1 hp).1
    rw [World.cell?_alloc_at _ _ _ _ rfl]
    have h2:i=0∨i=1:=by omega
    rcases h2 with rfl | rfl <;> (simp at hp;subst hp;rfl)⟩,fun p hp=>by
    simp only [List.mem_cons,List.not_mem_nil,or_false] at hp
    rcases hp with rfl | rfl
    · exact ⟨h1.below ((Below.refl _ _).alloc (Nat.le_refl _) _),Nat.le_refl _,fun x e=>by simp only [Option.some.injEq] at e;rw [← e];simp;omega⟩
    · exact ⟨(h2.alloc _).text hr,Nat.le_refl _,fun x e=>by simp only [Option.some.injEq] at e;rw [← e];exact (h2.alloc _).lt⟩⟩
theorem z6E (n:Nat) (r:Nat→Nat) (g h:Nat):JOIN [⟨some ⟨g,0,none⟩,8,8,BE8 n⟩,⟨some ⟨h,0,none⟩,32,32,(List.range 32).map r⟩]=BE8 n ++ (List.range 32).map r:=by simp [JOIN]
theorem z8F (n:Nat) (hn:n<2 ^ 64) (r:Nat→Nat) (hr:∀ i,r i<256) (w:World):Calls Tryz.prog 122 #[.int .u64 (n:Int),.agg (UARR .u8 32 r)] w fun e w'=>
    ∃ a' c',e=.returned (.slice a' 41 c')∧w'.ownsRow w.heap.size 5 1 (.slice a' 41 c') 41 (z00 (INTS (3 :: (BE8 n ++ (List.range 32).map r))))∧Below w.heap.size w w':=by
  have hs32:=z3m
  have ci:=z5A n hn
  have H:Aside (∀ i,r i<256):=hr
  clear hr hn
  go_enter Tryz.func122,Tryz.ntmps122
  go_wp2_with fail
  have U:Aside (Below w.heap.size w (w.alloc (.cells (UARR .u8 32 r) 35))∧Has (w.alloc (.cells (UARR .u8 32 r) 35)) w.heap.size (UARR .u8 32 r) 35):=⟨(Below.refl _ _).alloc (Nat.le_refl _) _,Has.new w _ _⟩
  generalize w.alloc (.cells (UARR .u8 32 r) 35)=w1 at *
  obtain ⟨X,hX⟩:∃ X,X=((w1.drew.alloc (.cells (BARR 8 (BYTE n 8)) 5)).alloc (.cells #[.slice (some ⟨w1.heap.size,0,none⟩) 8 8,.slice (some ⟨w.heap.size,0,none⟩) 32 32] 53)):=⟨_,rfl⟩
  have hXs:X.heap.size=w1.heap.size+1+1:=by rw [hX];simp
  have ct:Calls Tryz.prog 98 #[.int .u8 3,.slice (some ⟨w1.heap.size+1,0,none⟩) 2 2] X fun e w'=>∃ a' c',e=.returned (.slice a' 41 c')∧w'.ownsRow X.heap.size 5 1 (.slice a' 41 c') 41 (z00 (INTS (3 :: (BE8 n ++ (List.range 32).map r))))∧Below X.heap.size X w':=by
    have hh1:=zax w1.drew n
    have hh2:Has (w1.drew.alloc (.cells (BARR 8 (BYTE n 8)) 5)) w.heap.size (UARR .u8 32 r) 35:=(show Has w1.drew w.heap.size (UARR .u8 32 r) 35 from U.out.2).alloc _
    have k:=z66 3 (by decide) _ 2 2 _ _ (zay H.out (by simp) hh1 hh2) (fun p hp=>by simp only [List.mem_cons,List.not_mem_nil,or_false] at hp;rcases hp with rfl | rfl <;> (intro e;cases e)) (by rw [z6E];simp [BE8]) (by decide)
    have e41:(BE8 n ++ (List.range 32).map r).length+1=41:=by simp [BE8]
    rw [z6E,e41] at k
    have es:(w1.drew.alloc (.cells (BARR 8 (BYTE n 8)) 5)).heap.size=w1.heap.size+1:=by simp
    rw [hX]
    rw [es] at k
    exact k
  have HX:Aside (Below w.heap.size w X∧w.heap.size≤X.heap.size):=⟨by rw [hX];exact (U.out.1.drew.alloc U.out.1.size _).alloc (by have:=U.out.1.size;simp;omega) _,by rw [hXs];have:=U.out.1.size;omega⟩
  rw [hX] at ct
  go_region_held3 (fun _=>True) (trivial) (first | (go_at_call 148;refine (ci _).mono ?_;rintro e w4 ⟨rfl,rfl⟩) | (go_at_call 98;refine ct.mono ?_;rintro e w5 ⟨a5,c5,rfl,hown5,hb5⟩))
  rw [← hX] at hown5 hb5
  have S:Aside (w5.ownsRow w.heap.size 5 1 (.slice a5 41 c5) 41 (z00 (INTS (3 :: (BE8 n ++ (List.range 32).map r))))∧Below w.heap.size w w5):=⟨z0i hown5 HX.out.2,HX.out.1.trans (hb5.mono HX.out.2)⟩
  clear hown5 hb5 ct
  go_wp2
  go_ret
  exact ⟨a5,c5,rfl,S.out.1,S.out.2⟩
end Go.Proofs.YtjkjlblongeljaaGreatDoor.HX

namespace Go.Proofs.YtjkjlblongeljaaGreatDoor.HX
open Go.RowKit
set_option maxRecDepth 100000
theorem Has.whole {w:World} {g:Nat} {F:Nat→Nat} {k:IntKind} {n:Nat} {t:TypeId} (h:Has w g (UARR k n F) t):w.rangeAt g 0 (z02 k n F):=fun j v hv=>by
  have hj:j<n:=by have:=(List.getElem?_eq_some_iff.1 hv).1;rw [z0a] at this;exact this
  rw [z1l _ _ _ _ hj] at hv
  rw [Nat.zero_add,h.cell,z0h _ _ _ _ hj,hv]
theorem z1u {B:Nat} {w w':World} {g o:Nat} {cs:List Value} (h:w.rangeAt g o cs) (hb:Below B w w') (hg:g<B):w'.rangeAt g o cs:=fun j v hv=>(hb.cell (by exact hg)).trans (h j v hv)
theorem z7F (d n:Nat) (F G:Nat→Nat) (w:World):∀ is:List Nat,(∀ i∈is,i<n)→(Op.eqItems (d+1) 5 1 (UARR .u8 n F) (UARR .u8 n G) is).run Tryz.prog w=.ok (is.all fun i=>F i == G i) w
  | [],_=>by simp [Op.eqItems]
  | i :: is,h=>by
    have hp:Tryz.prog.plainKey 5=true:=by kernel_rfl
    have hi:i<n:=h i (by simp)
    have h1:=run_part_plain (P:=Tryz.prog) w hp (z0h .u8 n F i hi)
    have h2:=run_part_plain (P:=Tryz.prog) w hp (z0h .u8 n G i hi)
    have h3:=run_equalIn_int (P:=Tryz.prog) w d 5 .u8 .u8 (F i:Nat) (G i:Nat) Tryz.underlying5
    have ih:=z7F d n F G w is (fun j hj=>h j (by simp [hj]))
    rw [Op.eqItems,Nat.mul_one]
    simp only [Sem.run_bind,h1,h2,h3,Result.andThen_ok]
    by_cases e:F i=G i
    · simp [e,ih]
    · have e2:((F i:Int) == (G i:Int))=false:=by simp;omega
      simp [e2,e]
theorem zaz (F G:Nat→Nat) (w:World):(Op.equalIn 10000 35 (.agg (UARR .u8 32 F)) (.agg (UARR .u8 32 G))).run Tryz.prog w=.ok ((List.range 32).all fun i=>F i == G i) w:=by
  obtain ⟨i8,hi,_⟩:=Option.map_eq_some_iff.1 z0S
  rw [run_equalIn_array (P:=Tryz.prog) w 9999 (UARR .u8 32 F) (UARR .u8 32 G) Tryz.underlying35 hi]
  have hc:Tryz.prog.cellsOf 5=1:=by kernel_rfl
  rw [hc]
  exact z7F 9998 32 F G w _ (fun i hi=>by simpa using hi)
end Go.Proofs.YtjkjlblongeljaaGreatDoor.HX

namespace Go.Proofs.YtjkjlblongeljaaGreatDoor.HX
open Go.RowKit
set_option maxRecDepth 100000
theorem zbO {w:World} {base n c:Nat} {a:Option Addr} {l:List Nat} (h:w.ownsRow base 5 1 (.slice a n c) n (z00 (INTS l))) (hl:Small8 l):Text w a n l:=Text.of_bytes (z1t h (z1O hl)).1
theorem zdw {w:World} {base n c s:Nat} {a:Option Addr} {t:TypeId} {xs:List Value} (h:w.ownsRow base t s (.slice a n c) n xs):a=none→c=0:=fun ha=>by
  rcases h.2 with ⟨hv,_⟩ | ⟨g,cap,cur,hv,_⟩
  · simp at hv
    exact hv.2.2
  · subst ha
    simp at hv
theorem zaA {w:World} {a:Option Addr} {n c:Nat} {l:List Nat} (hA:Text w a n l) (hnc:n≤c) (hx:∀ x,a=some x→x.block<w.heap.size):Parts (w.alloc (.cells #[.slice a n c] 53)) (some ⟨w.heap.size,0,none⟩) 1 [⟨a,n,c,l⟩]:=
  ⟨rfl,fun _=>⟨w.heap.size,0,rfl,by simp,fun i p hp=>by
      have hi:i<1:=(List.getElem?_eq_some_iff.1 hp).1
      obtain rfl:i=0:=by omega
      simp only [List.getElem?_cons_zero,Option.some.injEq] at hp
      subst hp
      rw [World.cell?_alloc_at _ _ _ _ rfl]
      rfl⟩,fun p hp=>by
      simp only [List.mem_singleton] at hp
      subst hp
      exact ⟨hA.below ((Below.refl _ _).alloc (Nat.le_refl _) _),hnc,fun x e=>by have:=hx x e;simp;omega⟩⟩
theorem zbP {w:World} {B n c:Nat} {a:Option Addr} {l:List Nat} (h:w.ownsRow B 5 1 (.slice a n c) n (z00 (INTS l))) (hs:Small8 l):Parts (w.alloc (.cells #[.slice a n c] 53)) (some ⟨w.heap.size,0,none⟩) 1 [⟨a,n,c,l⟩]∧(a=none→c=0):=by
  refine ⟨zaA (zbO h hs) ?_ (fun x e=>?_),zdw h⟩
  · exact (z1t h (z1O hs)).2
  · subst e
    rcases h.2 with ⟨e,_⟩ | ⟨g,c2,cur,e,_,hg,_⟩
    · simp at e
    · simp only [Value.slice.injEq,Option.some.injEq] at e
      rw [e.1]
      exact (Array.getElem?_eq_some_iff.1 hg).1
theorem z7G (a:Option Addr) (n c:Nat) (l:List Nat):JOIN [⟨a,n,c,l⟩]=l:=by simp [JOIN]
theorem z3n {x:Nat} {l:List Nat} (hx:x<256) (h:Small8 l):Small8 (x :: l):=fun y hy=>by
  rcases List.mem_cons.1 hy with rfl | hy
  · exact hx
  · exact h y hy
theorem z3K {l k:List Nat} (h1:Small8 l) (h2:Small8 k):Small8 (l ++ k):=fun y hy=>by
  rcases List.mem_append.1 hy with hy | hy
  · exact h1 y hy
  · exact h2 y hy
theorem z2c {f:Nat→Nat} (h:∀ i,f i<256):Small8 ((List.range 32).map f):=fun y hy=>by
  obtain ⟨i,_,rfl⟩:=List.mem_map.1 hy
  exact h i
theorem zbQ (n:Nat):Small8 (BE8 n):=fun y hy=>by
  obtain ⟨i,_,rfl⟩:=List.mem_map.1 hy
  exact Nat.mod_lt _ (by decide)
theorem z59 {w:World} (d:Int) {B n c:Nat} {a:Option Addr} {l:List Nat} (h:w.ownsRow B 5 1 (.slice a n c) n (z00 (INTS l))) (hs:Small8 l) (hl:l.length<5000) (hT:Tabled w):
    Calls Tryz.prog 67 #[.int .i64 d,.slice (some ⟨w.heap.size,0,none⟩) 1 1] (w.alloc (.cells #[.slice a n c] 53)) fun e w'=>e=.returned (.agg (UARR .u8 32 (z0y d l)))∧Below (w.alloc (.cells #[.slice a n c] 53)).heap.size (w.alloc (.cells #[.slice a n c] 53)) w':=by
  have:=zfL d _ 1 1 _ _ (zbP h hs).1 (hT.below ((Below.refl _ _).alloc (Nat.le_refl _) _)) (by rw [z7G];omega) (by decide)
  rw [z7G] at this
  exact this
theorem z9w (d:Int) (l r:Nat→Nat) (hl:∀ i,l i<256) (hr:∀ i,r i<256) (w:World) (hT:Tabled w):Calls Tryz.prog 31 #[.int .i64 d,.agg (UARR .u8 32 l),.agg (UARR .u8 32 r)] w fun e w'=>e=.returned (.agg (UARR .u8 32 (z0y d (1 :: ((List.range 32).map l ++ (List.range 32).map r)))))∧Below w.heap.size w w':=by
  have hz:=z2b
  have ct:=fun W=>z8D l r hl hr W
  have H:Aside ((∀ i,l i<256)∧(∀ i,r i<256)∧Tabled w):=⟨hl,hr,hT⟩
  obtain ⟨W,zb,lb,rb,hW,hzb,hlb,hrb,R,h4,h5⟩:∃ W zb lb rb,W=((w.alloc (.cells (UARR .u8 32 l) 35)).alloc (.cells (UARR .u8 32 r) 35)).alloc (.cells (UARR .u8 32 fun _=>0) 35)∧zb=w.heap.size+1+1∧lb=w.heap.size∧rb=w.heap.size+1∧Aside (Has W zb (UARR .u8 32 fun _=>0) 35∧Below w.heap.size w W∧w.heap.size≤zb)∧W.rangeAt lb 0 (z02 .u8 32 l)∧W.rangeAt rb 0 (z02 .u8 32 r):=by
    refine ⟨_,_,_,_,rfl,rfl,rfl,rfl,⟨Has.at _ _ _ (by simp),(((Below.refl _ _).alloc (Nat.le_refl _) _).alloc (by simp) _).alloc (by simp;omega) _,by omega⟩,(((Has.new w _ _).alloc _).alloc _).whole,((Has.at _ _ _ (by simp)).alloc _).whole⟩
  clear hl hr hT
  go_enter Tryz.func31,Tryz.ntmps31
  go_wp2_with (first
    | (rw [← hW];refine wpList_load_mid rfl 35 (.tmp 4) rfl w.heap.size 0 rfl (z02 .u8 32 l) (.array 32 5) (by rw [← hlb];exact h4) Tryz.underlying35 rfl (by rw [z0a];exact z0t) ?_;rw [← z0M])
    | (refine wpList_load_mid rfl 35 (.tmp 5) rfl (w.heap.size+1) 0 rfl (z02 .u8 32 r) (.array 32 5) (by rw [← hrb];exact h5) Tryz.underlying35 rfl (by rw [z0a];exact z0t) ?_;rw [← z0M]))
  rw [← hzb]
  refine (ct _).mono ?_
  rintro e w2 ⟨a',c',rfl,hown,hb⟩
  rw [← hW] at hown hb
  clear ct h4 h5 hW hzb hlb hrb
  have S:Aside (Has w2 zb (UARR .u8 32 fun _=>0) 35∧Below w.heap.size w w2):=⟨R.out.1.keep hb,R.out.2.1.trans (hb.mono R.out.2.1.size)⟩
  have cs:=z59 d hown (z3n (by decide) (z3K (z2c H.out.1) (z2c H.out.2.1))) (by simp) (H.out.2.2.below S.out.2)
  have Z:Aside (w.heap.size≤zb):=R.out.2.2
  clear hown hb R
  go_wp2_with fail
  refine cs.mono ?_
  rintro e w3 ⟨rfl,hb3⟩
  have hb4:Below w2.heap.size w2 w3:=((Below.refl _ _).alloc (Nat.le_refl _) _).trans (hb3.mono (by simp))
  have S2:Aside (Has w3 zb (UARR .u8 32 fun _=>0) 35∧Below w.heap.size w w3):=⟨S.out.1.keep hb4,S.out.2.trans (hb4.mono S.out.2.size)⟩
  clear cs hb3 hb4 S
  go_wp2_with (first
    | (refine wpList_store_row rfl 35 _ _ rfl _ _ rfl rfl _ _ S2.out.1 (z03 _) (by rw [z01,z01]) (z0f _ _ _) ?_))
  refine bodyPost_ret (v:=.agg (UARR .u8 32 (z0y d (1 :: ((List.range 32).map l ++ (List.range 32).map r))))) ?_ rfl ⟨rfl,z06 S2.out.2 Z.out _⟩
  exact results_cell_row rfl _ _ zb 35 _ (0,0) _ rfl (S2.out.1.row _) Tryz.underlying35 rfl (z03 _)
theorem z9x (d:Int) (l r:Nat→Nat) (hl:∀ i,l i<256) (hr:∀ i,r i<256) (w:World) (hT:Tabled w):Calls Tryz.prog 123 #[.int .i64 d,.agg (UARR .u8 32 l),.agg (UARR .u8 32 r)] w fun e w'=>e=.returned (.agg (UARR .u8 32 (z0y d (2 :: ((List.range 32).map l ++ (List.range 32).map r)))))∧Below w.heap.size w w':=by
  have hz:=z2b
  have ct:=fun W=>z8E l r hl hr W
  have H:Aside ((∀ i,l i<256)∧(∀ i,r i<256)∧Tabled w):=⟨hl,hr,hT⟩
  obtain ⟨W,zb,lb,rb,hW,hzb,hlb,hrb,R,h4,h5⟩:∃ W zb lb rb,W=((w.alloc (.cells (UARR .u8 32 l) 35)).alloc (.cells (UARR .u8 32 r) 35)).alloc (.cells (UARR .u8 32 fun _=>0) 35)∧zb=w.heap.size+1+1∧lb=w.heap.size∧rb=w.heap.size+1∧Aside (Has W zb (UARR .u8 32 fun _=>0) 35∧Below w.heap.size w W∧w.heap.size≤zb)∧W.rangeAt lb 0 (z02 .u8 32 l)∧W.rangeAt rb 0 (z02 .u8 32 r):=by
    refine ⟨_,_,_,_,rfl,rfl,rfl,rfl,⟨Has.at _ _ _ (by simp),(((Below.refl _ _).alloc (Nat.le_refl _) _).alloc (by simp) _).alloc (by simp;omega) _,by omega⟩,(((Has.new w _ _).alloc _).alloc _).whole,((Has.at _ _ _ (by simp)).alloc _).whole⟩
  clear hl hr hT
  go_enter Tryz.func123,Tryz.ntmps123
  go_wp2_with (first
    | (rw [← hW];refine wpList_load_mid rfl 35 (.tmp 4) rfl w.heap.size 0 rfl (z02 .u8 32 l) (.array 32 5) (by rw [← hlb];exact h4) Tryz.underlying35 rfl (by rw [z0a];exact z0t) ?_;rw [← z0M])
    | (refine wpList_load_mid rfl 35 (.tmp 5) rfl (w.heap.size+1) 0 rfl (z02 .u8 32 r) (.array 32 5) (by rw [← hrb];exact h5) Tryz.underlying35 rfl (by rw [z0a];exact z0t) ?_;rw [← z0M]))
  rw [← hzb]
  refine (ct _).mono ?_
  rintro e w2 ⟨a',c',rfl,hown,hb⟩
  rw [← hW] at hown hb
  clear ct h4 h5 hW hzb hlb hrb
  have S:Aside (Has w2 zb (UARR .u8 32 fun _=>0) 35∧Below w.heap.size w w2):=⟨R.out.1.keep hb,R.out.2.1.trans (hb.mono R.out.2.1.size)⟩
  have cs:=z59 d hown (z3n (by decide) (z3K (z2c H.out.1) (z2c H.out.2.1))) (by simp) (H.out.2.2.below S.out.2)
  have Z:Aside (w.heap.size≤zb):=R.out.2.2
  clear hown hb R
  go_wp2_with fail
  refine cs.mono ?_
  rintro e w3 ⟨rfl,hb3⟩
  have hb4:Below w2.heap.size w2 w3:=((Below.refl _ _).alloc (Nat.le_refl _) _).trans (hb3.mono (by simp))
  have S2:Aside (Has w3 zb (UARR .u8 32 fun _=>0) 35∧Below w.heap.size w w3):=⟨S.out.1.keep hb4,S.out.2.trans (hb4.mono S.out.2.size)⟩
  clear cs hb3 hb4 S
  go_wp2_with (first
    | (refine wpList_store_row rfl 35 _ _ rfl _ _ rfl rfl _ _ S2.out.1 (z03 _) (by rw [z01,z01]) (z0f _ _ _) ?_))
  refine bodyPost_ret (v:=.agg (UARR .u8 32 (z0y d (2 :: ((List.range 32).map l ++ (List.range 32).map r))))) ?_ rfl ⟨rfl,z06 S2.out.2 Z.out _⟩
  exact results_cell_row rfl _ _ zb 35 _ (0,0) _ rfl (S2.out.1.row _) Tryz.underlying35 rfl (z03 _)
theorem z9y (d:Int) (n:Nat) (hn:n<2 ^ 64) (r:Nat→Nat) (hr:∀ i,r i<256) (w:World) (hT:Tabled w):Calls Tryz.prog 94 #[.int .i64 d,.int .u64 (n:Int),.agg (UARR .u8 32 r)] w fun e w'=>e=.returned (.agg (UARR .u8 32 (z0y d (3 :: (BE8 n ++ (List.range 32).map r)))))∧Below w.heap.size w w':=by
  have hz:=z2b
  have ct:=fun W=>z8F n hn r hr W
  have H:Aside ((∀ i,r i<256)∧Tabled w):=⟨hr,hT⟩
  obtain ⟨W,zb,rb,hW,hzb,hrb,R,h5⟩:∃ W zb rb,W=(w.alloc (.cells (UARR .u8 32 r) 35)).alloc (.cells (UARR .u8 32 fun _=>0) 35)∧zb=w.heap.size+1∧rb=w.heap.size∧Aside (Has W zb (UARR .u8 32 fun _=>0) 35∧Below w.heap.size w W∧w.heap.size≤zb)∧W.rangeAt rb 0 (z02 .u8 32 r):=by
    refine ⟨_,_,_,rfl,rfl,rfl,⟨Has.at _ _ _ (by simp),((Below.refl _ _).alloc (Nat.le_refl _) _).alloc (by simp) _,by omega⟩,((Has.new w _ _).alloc _).whole⟩
  clear hn hr hT
  go_enter Tryz.func94,Tryz.ntmps94
  go_wp2_with (first
    | (rw [← hW];refine wpList_load_mid rfl 35 (.tmp 5) rfl w.heap.size 0 rfl (z02 .u8 32 r) (.array 32 5) (by rw [← hrb];exact h5) Tryz.underlying35 rfl (by rw [z0a];exact z0t) ?_;rw [← z0M]))
  rw [← hzb]
  refine (ct _).mono ?_
  rintro e w2 ⟨a',c',rfl,hown,hb⟩
  rw [← hW] at hown hb
  clear ct h5 hW hzb hrb
  have S:Aside (Has w2 zb (UARR .u8 32 fun _=>0) 35∧Below w.heap.size w w2):=⟨R.out.1.keep hb,R.out.2.1.trans (hb.mono R.out.2.1.size)⟩
  have cs:=z59 d hown (z3n (by decide) (z3K (zbQ n) (z2c H.out.1))) (by simp [BE8]) (H.out.2.below S.out.2)
  have Z:Aside (w.heap.size≤zb):=R.out.2.2
  clear hown hb R
  go_wp2_with fail
  refine cs.mono ?_
  rintro e w3 ⟨rfl,hb3⟩
  have hb4:Below w2.heap.size w2 w3:=((Below.refl _ _).alloc (Nat.le_refl _) _).trans (hb3.mono (by simp))
  have S2:Aside (Has w3 zb (UARR .u8 32 fun _=>0) 35∧Below w.heap.size w w3):=⟨S.out.1.keep hb4,S.out.2.trans (hb4.mono S.out.2.size)⟩
  clear cs hb3 hb4 S
  go_wp2_with (first
    | (refine wpList_store_row rfl 35 _ _ rfl _ _ rfl rfl _ _ S2.out.1 (z03 _) (by rw [z01,z01]) (z0f _ _ _) ?_))
  refine bodyPost_ret (v:=.agg (UARR .u8 32 (z0y d (3 :: (BE8 n ++ (List.range 32).map r))))) ?_ rfl ⟨rfl,z06 S2.out.2 Z.out _⟩
  exact results_cell_row rfl _ _ zb 35 _ (0,0) _ rfl (S2.out.1.row _) Tryz.underlying35 rfl (z03 _)
end Go.Proofs.YtjkjlblongeljaaGreatDoor.HX

namespace Go.Proofs.YtjkjlblongeljaaGreatDoor
open Go.RowKit
theorem z4g {F f:Nat→Int} {i:Nat} {v:Int} (A:∀ j,f j=if j<i then F j else 0) (hv:v=F i):∀ j,(if j=i then v else f j)=if j<i+1 then F j else 0:=fun j=>by
  by_cases e:j=i
  · subst e
    simp [hv]
  · rw [if_neg e,A j]
    by_cases e2:j<i
    · rw [if_pos e2,if_pos (by omega)]
    · rw [if_neg e2,if_neg (by omega)]
theorem z65 (x:Int) (n:Nat) (F:Nat→Int) (hn:(n:Int)≤8) (w:World) (c:∀ w,Calls Tryz.prog 170 #[.int .u64 x,.int .i64 (8*(n:Int))] w fun e w'=>e=.returned (.int .u64 0)∧w=w')
    (ci:∀ i:Nat,i<n→∃ s:Int,Aside (s % 256=F i)∧∀ w,Calls Tryz.prog 170 #[.int .u64 x,.int .i64 (8*((n:Int) - 1 - (i:Int)))] w fun e w'=>e=.returned (.int .u64 s)∧w=w'):
    Calls Tryz.prog 171 #[.int .u64 x,.int .i64 (n:Int)] w fun e w'=>e=.returned (.tuple #[.slice (some ⟨w.heap.size,0,none⟩) n n,.int .i64 0])∧w.alloc (.cells (BARR n F) 5)=w':=by
  have hmk:=z5v n (by omega)
  have CI:Aside (∀ i:Nat,i<n→∃ s:Int,Aside (s % 256=F i)∧∀ w,Calls Tryz.prog 170 #[.int .u64 x,.int .i64 (8*((n:Int) - 1 - (i:Int)))] w fun e w'=>e=.returned (.int .u64 s)∧w=w'):=ci
  clear ci
  go_enter Tryz.func171,Tryz.ntmps171
  go_wp2_with fail
  refine (c _).mono ?_
  rintro e w' ⟨rfl,rfl⟩
  go_wp2
  go_loopg [23] n (fun g s23 wx=>∃ (i:Nat) (f:Nat→Int),i+g=n∧Aside (∀ j,f j=if j<i then F j else 0)∧s23=.int .i64 i∧wx=w.alloc (.cells (BARR n f) 5))
  case atStart=>exact ⟨0,fun _=>0,by omega,fun j=>by simp,rfl,rfl⟩
  case round=>
    obtain ⟨i,f,hig,A,rfl,rfl⟩:=hrel
    cases gk with
    | zero=>
      obtain rfl:i=n:=by omega
      have hf:BARR i f=BARR i F:=z7v fun j hj=>by rw [A.out j,if_pos hj]
      rw [hf]
      clear hf A
      go_wp2
      go_ret2
      exact ⟨rfl,rfl⟩
    | succ g=>
      have hi:(i:Int)<(n:Int):=by omega
      have hc:(BARR n f)[i]?=some (.int .u8 (f i)):=z1B n f i (by omega)
      have hs:∀ v,(BARR n f).setIfInBounds i (.int .u8 v)=BARR n (fun j=>if j=i then v else f j):=fun v=>z57 n f i v
      obtain ⟨s,hsF,cs⟩:=CI.out i (by omega)
      go_wp2_with fail
      refine (cs _).mono ?_
      rintro e w' ⟨rfl,rfl⟩
      go_wp2
      go_roundg g
      case measure=>omega
      case rel=>exact ⟨i+1,_,by omega,z4g A.out hsF.out,by go_num,rfl⟩
def BYTE (X n:Nat):Nat→Int:=fun i=>((X / 2 ^ (8*(n - 1 - i)) % 256:Nat):Int)
theorem zbJ (X n:Nat) (hX:X<2 ^ 64) (hn:n≤8) (h:X / 2 ^ (8*n)=0) (w:World):
    Calls Tryz.prog 171 #[.int .u64 (X:Int),.int .i64 (n:Int)] w fun e w'=>e=.returned (.tuple #[.slice (some ⟨w.heap.size,0,none⟩) n n,.int .i64 0])∧w.alloc (.cells (BARR n (BYTE X n)) 5)=w':=by
  refine z65 X n (BYTE X n) (by omega) w (fun w=>?_) (fun i hi=>?_)
  · have k:=z2x X (8*(n:Int)) hX (by omega) (by omega) w
    have hs:SHR X (8*(n:Int))=0:=by
      unfold SHR
      rw [if_neg (by omega),show (8*(n:Int)).toNat=8*n by omega,h]
    rw [hs] at k
    exact k
  · refine ⟨(SHR X (8*((n:Int) - 1 - (i:Int))):Nat),?_,fun w=>z2x X _ hX (by omega) (by omega) w⟩
    unfold SHR BYTE Aside
    rw [if_neg (by omega),show (8*((n:Int) - 1 - (i:Int))).toNat=8*(n - 1 - i) by omega]
    simp
end Go.Proofs.YtjkjlblongeljaaGreatDoor

namespace Go.Proofs.YtjkjlblongeljaaGreatDoor
open Go.RowKit
def z00 (l:List Int):List Value:=l.map (Value.int .u8)
theorem z0N (a b:List Int):z00 (a ++ b)=z00 a ++ z00 b:=by simp [z00]
theorem z0u (l:List Int) (i:Nat) (h:i<l.length):(z00 l)[i]?=some (.int .u8 (l.getD i 0)):=by
  simp [z00,h,List.getD_eq_getElem?_getD]
theorem z0O (l:List Int):∀ u∈z00 l,u.oneCell'=true:=fun u hu=>by
  simp [z00] at hu
  obtain ⟨x,_,rfl⟩:=hu
  rfl
theorem z1s:∃ i,Tryz.prog.info? 5=some i∧i.zero=some (.int .u8 0)∧i.size=1∧i.bytes=1:=by
  obtain ⟨i,hi,h⟩:=Option.map_eq_some_iff.1 z0S
  simp only [Prod.mk.injEq] at h
  exact ⟨i,hi,h.1,h.2.1,h.2.2⟩
theorem z1C {ops:Array Oper} {rest:List Oper} {o:Oper} {a:Act} {Q:Exit→Act→World→Prop} (w:World) (hgd:o.guard=none) (s x:Operand)
    (ho:o.op=.call {callee:=.builtin .append,args:=#[s,x],argTypes:=#[53,53]})
    (base:Nat) (v:Value) (n:Nat) (xs:List Int) (hs:a.eval s=v) (hown:w.ownsRow base 5 1 v n (z00 xs))
    (b off m c:Nat) (l:List Int) (hx:a.eval x=.slice (some ⟨b,off,none⟩) m c) (hB:Bytes w (some ⟨b,off,none⟩) m l)
    (hm:0<m) (hb:n+m≤140737488355328) (hbase:base≤w.heap.size)
    (h:∀ g cap w',w'.ownsRow base 5 1 (.slice (some ⟨g,0,none⟩) (n+m) cap) (n+m) (z00 (xs ++ l))→w.grownBy w' v.ownBlock→g<w'.heap.size→wpList Tryz.prog ops Q rest (a.put o.dst (.slice (some ⟨g,0,none⟩) (n+m) cap)) w'):wpList Tryz.prog ops Q (o :: rest) a w:=by
  obtain ⟨i,hi,hz,hs1,hby⟩:=z1s
  obtain ⟨b',off',e,_,hc⟩:=hB.2.1 hm
  simp only [Option.some.injEq,Addr.mk.injEq] at e
  obtain ⟨rfl,rfl,_⟩:=e
  refine wpList_append_lies w hgd s x 53 ho base 5 i (.int .u8 0) 1 1 Tryz.underlying53 hi hz hs1 hby rfl (by decide) v n (z00 xs) hs hown ⟨b,off,none⟩ m c (z00 l) hx (by simp [z00,hB.1]) ?_ (z0O l) hm (by simp only [maxLen];omega) (by omega) hbase w.heap.size rfl ?_
  · intro j u hj
    have hjl:j<l.length:=by
      have:=(List.getElem?_eq_some_iff.1 hj).1
      simpa [z00] using this
    rw [z0u l j hjl] at hj
    rw [z19,hc j (by rw [← hB.1];exact hjl)]
    exact hj
  · intro g cap w' h1 h2 _ h4
    rw [← z0N] at h1
    exact h g cap w' h1 h2 h4
theorem z2D (w:World) (row:Option Nat):w.grownBy w row:=⟨rfl,rfl,rfl,Nat.le_refl _,fun _ _ _=>rfl⟩
theorem z58 {ops:Array Oper} {rest:List Oper} {o:Oper} {a:Act} {Q:Exit→Act→World→Prop} (w:World) (hgd:o.guard=none) (s x:Operand)
    (ho:o.op=.call {callee:=.builtin .append,args:=#[s,x],argTypes:=#[53,53]})
    (base:Nat) (v:Value) (n:Nat) (xs:List Int) (hs:a.eval s=v) (hown:w.ownsRow base 5 1 v n (z00 xs))
    (ao:Option Addr) (c:Nat) (hx:a.eval x=.slice ao 0 c) (hc:ao=none→c=0) (hn:n≤140737488355328) (hbase:base≤w.heap.size)
    (h:∀ a' c' w',w'.ownsRow base 5 1 (.slice a' n c') n (z00 xs)→w.grownBy w' v.ownBlock→wpList Tryz.prog ops Q rest (a.put o.dst (.slice a' n c')) w'):wpList Tryz.prog ops Q (o :: rest) a w:=by
  obtain ⟨i,hi,hz,hs1,hby⟩:=z1s
  have form:∀ (v':Value) (w':World),w'.ownsRow base 5 1 v' n (z00 xs)→∃ a' c',v'=.slice a' n c':=fun v' w' h=>by
    rcases h.2 with ⟨rfl,rfl⟩ | ⟨g,cap,cur,rfl,_⟩
    · exact ⟨none,0,rfl⟩
    · exact ⟨_,cap,rfl⟩
  cases ao with
  | none=>
    obtain rfl:=hc rfl
    refine wpList_append_own_none hgd s x 53 ho base 5 i 1 Tryz.underlying53 hi v n (z00 xs) hs hown hx ?_
    obtain ⟨a',c',rfl⟩:=form v w hown
    exact h a' c' w hown (z2D _ _)
  | some ad=>
    refine wpList_append_own w hgd s x 53 ho base 5 i (.int .u8 0) 1 1 Tryz.underlying53 hi hz hs1 hby rfl (by decide) v n (z00 xs) hs hown ad 0 c [] hx rfl (fun j u hj=>by simp at hj) (fun u hu=>by simp at hu) (by simp only [maxLen];omega) (by omega) hbase ?_
    intro v' w' h1 h2 _
    simp only [Nat.add_zero,List.append_nil] at h1
    obtain ⟨a',c',rfl⟩:=form v' w' h1
    exact h a' c' w' h1 h2
theorem z25 {w:World} {base g n cap:Nat} {l:List Int} (h:w.ownsRow base 5 1 (.slice (some ⟨g,0,none⟩) n cap) n (z00 l)) (hg:g<w.heap.size) (hl:∀ x∈l,0≤x∧x≤255):Bytes w (some ⟨g,0,none⟩) n l:=by
  have hlen:l.length=n:=by have:=h.1;simpa [z00] using this
  refine ⟨hlen,fun _=>⟨g,0,rfl,hg,fun i hi=>?_⟩,hl⟩
  rw [Nat.zero_add,h.cellAt i (by omega),z0u l i (by omega)]
theorem z2y (w:World) (n:Nat) (f:Nat→Int) (l:List Int) (hl:l.length=n) (hf:∀ i,i<n→f i=l.getD i 0) (hr:∀ x∈l,0≤x∧x≤255):Bytes (w.alloc (.cells (BARR n f) 5)) (some ⟨w.heap.size,0,none⟩) n l:=by
  refine ⟨hl,fun _=>⟨w.heap.size,0,rfl,by simp,fun i hi=>?_⟩,hr⟩
  rw [Nat.zero_add,World.cell?_alloc_at _ _ _ _ rfl,z1B n f i hi,hf i hi]
theorem z1t {w:World} {base n c:Nat} {a:Option Addr} {l:List Int} (h:w.ownsRow base 5 1 (.slice a n c) n (z00 l)) (hl:∀ x∈l,0≤x∧x≤255):Bytes w a n l∧n≤c:=by
  rcases h.2 with ⟨hv,hn⟩ | ⟨g,cap,cur,hv,_,hg,hc,_⟩
  · simp only [Value.slice.injEq] at hv
    obtain ⟨rfl,rfl,rfl⟩:=hv
    have:l=[]:=by have:=h.1;simpa [z00] using this
    subst this
    exact ⟨⟨rfl,fun h=>by omega,fun x hx=>by simp at hx⟩,Nat.le_refl _⟩
  · simp only [Value.slice.injEq] at hv
    obtain ⟨rfl,_,rfl⟩:=hv
    exact ⟨z25 h (Array.getElem?_eq_some_iff.1 hg).1 hl,hc⟩
theorem z9v {ops:Array Oper} {rest:List Oper} {o:Oper} {a:Act} {Q:Exit→Act→World→Prop} (w:World) (hgd:o.guard=none) (s x:Operand)
    (ho:o.op=.call {callee:=.builtin .append,args:=#[s,x],argTypes:=#[53,53]})
    (base:Nat) (v:Value) (n:Nat) (xs:List Int) (hs:a.eval s=v) (hown:w.ownsRow base 5 1 v n (z00 xs))
    (ao:Option Addr) (m c:Nat) (l:List Int) (hx:a.eval x=.slice ao m c) (hB:Bytes w ao m l) (hc:ao=none→c=0)
    (N:Nat) (L:List Int) (hN:n+m=N) (hL:xs ++ l=L) (hb:N≤140737488355328) (hbase:base≤w.heap.size)
    (h:∀ a' c' w',w'.ownsRow base 5 1 (.slice a' N c') N (z00 L)→w.grownBy w' v.ownBlock→wpList Tryz.prog ops Q rest (a.put o.dst (.slice a' N c')) w'):wpList Tryz.prog ops Q (o :: rest) a w:=by
  subst hN hL
  rcases Nat.eq_zero_or_pos m with hm | hm
  · subst hm
    have hl:l=[]:=by have:=hB.1;simpa using this
    subst hl
    refine z58 w hgd s x ho base v n xs hs hown ao c hx hc (by omega) hbase ?_
    simpa using h
  · obtain ⟨b,off,rfl,_,_⟩:=hB.2.1 hm
    refine z1C w hgd s x ho base v n xs hs hown b off m c l hx hB hm hb hbase ?_
    intro g cap w' h1 h2 _
    exact h _ cap w' h1 h2
end Go.Proofs.YtjkjlblongeljaaGreatDoor
