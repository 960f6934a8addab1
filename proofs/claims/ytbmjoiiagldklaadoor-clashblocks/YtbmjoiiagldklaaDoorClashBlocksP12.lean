/- Texts of ClashBlocks, one behind the other: HashPairTexts, HashRootText, HashEq, HashSumPlain, VerifyHash, ProofSame, ProofTexts, ProofRow, ProofFlats. -/
import Derived.ChangeKeysEq
import Derived.Deep.RegionHeldLaw
import Derived.Deep.RegionHeld3
import Derived.Test.YtbmjoiiagldklaaDoorClashBlocksP6
import Derived.Test.YtbmjoiiagldklaaDoorClashBlocksP11
namespace Go.Proofs.YtbmjoiiagldklaaDoor.HX
open Go.RowKit
set_option maxRecDepth 100000
theorem z18 {w:World} {base base':Nat} {t:TypeId} {s:Nat} {v:Value} {n:Nat} {xs:List Value} (h:w.ownsRow base t s v n xs) (hb:base'≤base):w.ownsRow base' t s v n xs:=
  ⟨h.1,h.2.imp id fun ⟨g,c,cur,a,b,r⟩=>⟨g,c,cur,a,Nat.le_trans hb b,r⟩⟩
theorem z3j (b:Nat) (w:World):(Instr.sliceAt 26 (.pointer (some ⟨b,0,none⟩)) none none none).run Tryd.prog w=.ok (.slice (some ⟨b,0,none⟩) 32 32) w:=by
  have hn:Tryd.prog.arrayLen 26=32:=by kernel_rfl
  rw [run_sliceAt_array_all w 26 ⟨b,0,none⟩ (by kernel_rfl),hn]
  have he:Tryd.prog.elem 26=5:=by kernel_rfl
  obtain ⟨i8,hi,h8⟩:=Option.map_eq_some_iff.1 z0U
  simp only [Prod.mk.injEq] at h8
  rw [he]
  simp [sizeOf,typeInfo,hi,h8.2.1,slicedAt,Addr.add]
theorem Has.text {w:World} {g:Nat} {f:Nat→Nat} {t:TypeId} (h:Has w g (UARR .u8 32 f) t) (hf:∀ i,f i<256):Text w (some ⟨g,0,none⟩) 32 ((List.range 32).map f):=
  ⟨by simp,fun _=>⟨g,0,rfl,h.lt,fun i hi=>by rw [Nat.zero_add,h.cell,z0f _ _ _ _ hi,List.getD_eq_getElem?_getD,List.getElem?_map,List.getElem?_range hi];rfl⟩,fun x hx=>by obtain ⟨i,_,rfl⟩:=List.mem_map.1 hx;exact hf i⟩
theorem z87 {w:World} {l r:Nat→Nat} {g h:Nat} {t u:TypeId} (hl:∀ i,l i<256) (hr:∀ i,r i<256) (h1:Has w g (UARR .u8 32 l) t) (h2:Has w h (UARR .u8 32 r) u):Parts (w.alloc (.cells #[.slice (some ⟨g,0,none⟩) 32 32,.slice (some ⟨h,0,none⟩) 32 32] 30)) (some ⟨w.heap.size,0,none⟩) 2 [⟨some ⟨g,0,none⟩,32,32,(List.range 32).map l⟩,⟨some ⟨h,0,none⟩,32,32,(List.range 32).map r⟩]:=
  ⟨rfl,fun _=>⟨w.heap.size,0,rfl,by simp,fun i p hp=>by
    have hi:i<2:=(List.getElem?_eq_some_iff.1 hp).1
    rw [World.cell?_alloc_at _ _ _ _ rfl]
    have h2:i=0∨i=1:=by omega
    rcases h2 with rfl | rfl <;> (simp at hp;subst hp;rfl)⟩,fun p hp=>by
    simp only [List.mem_cons,List.not_mem_nil,or_false] at hp
    rcases hp with rfl | rfl
    · exact ⟨(h1.alloc _).text hl,Nat.le_refl _,fun x e=>by simp only [Option.some.injEq] at e;rw [← e];exact (h1.alloc _).lt⟩
    · exact ⟨(h2.alloc _).text hr,Nat.le_refl _,fun x e=>by simp only [Option.some.injEq] at e;rw [← e];exact (h2.alloc _).lt⟩⟩
theorem z4W (l r:Nat→Nat) (g h:Nat):JOIN [⟨some ⟨g,0,none⟩,32,32,(List.range 32).map l⟩,⟨some ⟨h,0,none⟩,32,32,(List.range 32).map r⟩]=(List.range 32).map l ++ (List.range 32).map r:=by simp [JOIN]
theorem z61 (l r:Nat→Nat) (hl:∀ i,l i<256) (hr:∀ i,r i<256) (w:World):Calls Tryd.prog 66 #[.agg (UARR .u8 32 l),.agg (UARR .u8 32 r)] w fun e w'=>
    ∃ a' c',e=.returned (.slice a' 65 c')∧w'.ownsRow w.heap.size 5 1 (.slice a' 65 c') 65 (z00 (INTS (1 :: ((List.range 32).map l ++ (List.range 32).map r))))∧Below w.heap.size w w':=by
  have hs32:=z3j
  have H:Aside ((∀ i,l i<256)∧(∀ i,r i<256)):=⟨hl,hr⟩
  clear hl hr
  go_enter Tryd.func66,Tryd.ntmps66
  go_wp2_with fail
  have U:Aside (Below w.heap.size w ((w.alloc (.cells (UARR .u8 32 l) 26)).alloc (.cells (UARR .u8 32 r) 26))∧Has ((w.alloc (.cells (UARR .u8 32 l) 26)).alloc (.cells (UARR .u8 32 r) 26)) w.heap.size (UARR .u8 32 l) 26∧Has ((w.alloc (.cells (UARR .u8 32 l) 26)).alloc (.cells (UARR .u8 32 r) 26)) (w.heap.size+1) (UARR .u8 32 r) 26):=⟨((Below.refl _ _).alloc (Nat.le_refl _) _).alloc (by simp) _,(Has.new w _ _).alloc _,Has.at _ _ _ (by simp)⟩
  generalize (w.alloc (.cells (UARR .u8 32 l) 26)).alloc (.cells (UARR .u8 32 r) 26)=w1 at *
  generalize hh:w.heap.size+1=h at *
  obtain ⟨X,hX⟩:∃ X,X=(w1.alloc (.cells #[.slice (some ⟨w.heap.size,0,none⟩) 32 32,.slice (some ⟨h,0,none⟩) 32 32] 30)).drew:=⟨_,rfl⟩
  have hXs:X.heap.size=w1.heap.size+1:=by rw [hX];simp [World.drew]
  have ct:Calls Tryd.prog 78 #[.int .u8 1,.slice (some ⟨w1.heap.size,0,none⟩) 2 2] X fun e w'=>∃ a' c',e=.returned (.slice a' 65 c')∧w'.ownsRow X.heap.size 5 1 (.slice a' 65 c') 65 (z00 (INTS (1 :: ((List.range 32).map l ++ (List.range 32).map r))))∧Below X.heap.size X w':=by
    have hh1:Has w1.drew w.heap.size (UARR .u8 32 l) 26:=U.out.2.1
    have hh2:Has w1.drew h (UARR .u8 32 r) 26:=U.out.2.2
    have k:=z7r 1 (by decide) _ 2 2 _ _ (z87 H.out.1 H.out.2 hh1 hh2) (fun p hp=>by simp only [List.mem_cons,List.not_mem_nil,or_false] at hp;rcases hp with rfl | rfl <;> (intro e;cases e)) (by rw [z4W];simp) (by decide)
    have e65:((List.range 32).map l ++ (List.range 32).map r).length+1=65:=by simp
    rw [z4W,e65] at k
    rw [hX]
    exact k
  have HX:Aside (Below w.heap.size w X∧w.heap.size≤X.heap.size):=⟨by rw [hX];exact (U.out.1.alloc U.out.1.size _).drew,by rw [hXs];have:=U.out.1.size;omega⟩
  rw [hX] at ct
  go_region_held3 (fun _=>True) (trivial) (first | (go_at_call 78;refine ct.mono ?_;rintro e w5 ⟨a5,c5,rfl,hown5,hb5⟩))
  rw [← hX] at hown5 hb5
  have S:Aside (w5.ownsRow w.heap.size 5 1 (.slice a5 65 c5) 65 (z00 (INTS (1 :: ((List.range 32).map l ++ (List.range 32).map r))))∧Below w.heap.size w w5):=⟨z18 hown5 HX.out.2,HX.out.1.trans (hb5.mono HX.out.2)⟩
  clear hown5 hb5 ct
  go_wp2
  go_ret
  exact ⟨a5,c5,rfl,S.out.1,S.out.2⟩
theorem z62 (l r:Nat→Nat) (hl:∀ i,l i<256) (hr:∀ i,r i<256) (w:World):Calls Tryd.prog 50 #[.agg (UARR .u8 32 l),.agg (UARR .u8 32 r)] w fun e w'=>
    ∃ a' c',e=.returned (.slice a' 65 c')∧w'.ownsRow w.heap.size 5 1 (.slice a' 65 c') 65 (z00 (INTS (2 :: ((List.range 32).map l ++ (List.range 32).map r))))∧Below w.heap.size w w':=by
  have hs32:=z3j
  have H:Aside ((∀ i,l i<256)∧(∀ i,r i<256)):=⟨hl,hr⟩
  clear hl hr
  go_enter Tryd.func50,Tryd.ntmps50
  go_wp2_with fail
  have U:Aside (Below w.heap.size w ((w.alloc (.cells (UARR .u8 32 l) 26)).alloc (.cells (UARR .u8 32 r) 26))∧Has ((w.alloc (.cells (UARR .u8 32 l) 26)).alloc (.cells (UARR .u8 32 r) 26)) w.heap.size (UARR .u8 32 l) 26∧Has ((w.alloc (.cells (UARR .u8 32 l) 26)).alloc (.cells (UARR .u8 32 r) 26)) (w.heap.size+1) (UARR .u8 32 r) 26):=⟨((Below.refl _ _).alloc (Nat.le_refl _) _).alloc (by simp) _,(Has.new w _ _).alloc _,Has.at _ _ _ (by simp)⟩
  generalize (w.alloc (.cells (UARR .u8 32 l) 26)).alloc (.cells (UARR .u8 32 r) 26)=w1 at *
  generalize hh:w.heap.size+1=h at *
  obtain ⟨X,hX⟩:∃ X,X=(w1.alloc (.cells #[.slice (some ⟨w.heap.size,0,none⟩) 32 32,.slice (some ⟨h,0,none⟩) 32 32] 30)).drew:=⟨_,rfl⟩
  have hXs:X.heap.size=w1.heap.size+1:=by rw [hX];simp [World.drew]
  have ct:Calls Tryd.prog 78 #[.int .u8 2,.slice (some ⟨w1.heap.size,0,none⟩) 2 2] X fun e w'=>∃ a' c',e=.returned (.slice a' 65 c')∧w'.ownsRow X.heap.size 5 1 (.slice a' 65 c') 65 (z00 (INTS (2 :: ((List.range 32).map l ++ (List.range 32).map r))))∧Below X.heap.size X w':=by
    have hh1:Has w1.drew w.heap.size (UARR .u8 32 l) 26:=U.out.2.1
    have hh2:Has w1.drew h (UARR .u8 32 r) 26:=U.out.2.2
    have k:=z7r 2 (by decide) _ 2 2 _ _ (z87 H.out.1 H.out.2 hh1 hh2) (fun p hp=>by simp only [List.mem_cons,List.not_mem_nil,or_false] at hp;rcases hp with rfl | rfl <;> (intro e;cases e)) (by rw [z4W];simp) (by decide)
    have e65:((List.range 32).map l ++ (List.range 32).map r).length+1=65:=by simp
    rw [z4W,e65] at k
    rw [hX]
    exact k
  have HX:Aside (Below w.heap.size w X∧w.heap.size≤X.heap.size):=⟨by rw [hX];exact (U.out.1.alloc U.out.1.size _).drew,by rw [hXs];have:=U.out.1.size;omega⟩
  rw [hX] at ct
  go_region_held3 (fun _=>True) (trivial) (first | (go_at_call 78;refine ct.mono ?_;rintro e w5 ⟨a5,c5,rfl,hown5,hb5⟩))
  rw [← hX] at hown5 hb5
  have S:Aside (w5.ownsRow w.heap.size 5 1 (.slice a5 65 c5) 65 (z00 (INTS (2 :: ((List.range 32).map l ++ (List.range 32).map r))))∧Below w.heap.size w w5):=⟨z18 hown5 HX.out.2,HX.out.1.trans (hb5.mono HX.out.2)⟩
  clear hown5 hb5 ct
  go_wp2
  go_ret
  exact ⟨a5,c5,rfl,S.out.1,S.out.2⟩
end Go.Proofs.YtbmjoiiagldklaaDoor.HX

namespace Go.Proofs.YtbmjoiiagldklaaDoor.HX
open Go.RowKit
set_option maxRecDepth 100000
theorem zc2 (w:World) (n:Nat):Text (w.alloc (.cells (BARR 8 (BYTE n 8)) 5)) (some ⟨w.heap.size,0,none⟩) 8 (BE8 n):=
  Text.of_bytes (z2B w 8 (BYTE n 8) (INTS (BE8 n)) (by rw [INTS,List.length_map,z4V]) (fun i hi=>by
      rw [z2T]
      unfold BYTE BE8
      rw [List.getD_eq_getElem?_getD,List.getElem?_map,List.getElem?_range hi]
      rfl) (z1z (z5n n)))
theorem zc3 {w:World} {n:Nat} {r:Nat→Nat} {g h:Nat} {t:TypeId} (hr:∀ i,r i<256) (hg:g<w.heap.size) (h1:Text w (some ⟨g,0,none⟩) 8 (BE8 n)) (h2:Has w h (UARR .u8 32 r) t):Parts (w.alloc (.cells #[.slice (some ⟨g,0,none⟩) 8 8,.slice (some ⟨h,0,none⟩) 32 32] 30)) (some ⟨w.heap.size,0,none⟩) 2 [⟨some ⟨g,0,none⟩,8,8,BE8 n⟩,⟨some ⟨h,0,none⟩,32,32,(List.range 32).map r⟩]:=
  ⟨rfl,fun _=>⟨w.heap.size,0,rfl,by simp,fun i p hp=>by
    have hi:i<2:=(List.getElem?_eq_some_iff.1 hp).1
    rw [World.cell?_alloc_at _ _ _ _ rfl]
    have h2:i=0∨i=1:=by omega
    rcases h2 with rfl | rfl <;> (simp at hp;subst hp;rfl)⟩,fun p hp=>by
    simp only [List.mem_cons,List.not_mem_nil,or_false] at hp
    rcases hp with rfl | rfl
    · exact ⟨h1.below ((Below.refl _ _).alloc (Nat.le_refl _) _),Nat.le_refl _,fun x e=>by simp only [Option.some.injEq] at e;rw [← e];simp;omega⟩
    · exact ⟨(h2.alloc _).text hr,Nat.le_refl _,fun x e=>by simp only [Option.some.injEq] at e;rw [← e];exact (h2.alloc _).lt⟩⟩
theorem z88 (n:Nat) (r:Nat→Nat) (g h:Nat):JOIN [⟨some ⟨g,0,none⟩,8,8,BE8 n⟩,⟨some ⟨h,0,none⟩,32,32,(List.range 32).map r⟩]=BE8 n ++ (List.range 32).map r:=by simp [JOIN]
theorem z63 (n:Nat) (hn:n<2 ^ 64) (r:Nat→Nat) (hr:∀ i,r i<256) (w:World):Calls Tryd.prog 51 #[.int .u64 (n:Int),.agg (UARR .u8 32 r)] w fun e w'=>
    ∃ a' c',e=.returned (.slice a' 41 c')∧w'.ownsRow w.heap.size 5 1 (.slice a' 41 c') 41 (z00 (INTS (3 :: (BE8 n ++ (List.range 32).map r))))∧Below w.heap.size w w':=by
  have hs32:=z3j
  have ci:=z6N n hn
  have H:Aside (∀ i,r i<256):=hr
  clear hr hn
  go_enter Tryd.func51,Tryd.ntmps51
  go_wp2_with fail
  have U:Aside (Below w.heap.size w (w.alloc (.cells (UARR .u8 32 r) 26))∧Has (w.alloc (.cells (UARR .u8 32 r) 26)) w.heap.size (UARR .u8 32 r) 26):=⟨(Below.refl _ _).alloc (Nat.le_refl _) _,Has.new w _ _⟩
  generalize w.alloc (.cells (UARR .u8 32 r) 26)=w1 at *
  obtain ⟨X,hX⟩:∃ X,X=((w1.drew.alloc (.cells (BARR 8 (BYTE n 8)) 5)).alloc (.cells #[.slice (some ⟨w1.heap.size,0,none⟩) 8 8,.slice (some ⟨w.heap.size,0,none⟩) 32 32] 30)):=⟨_,rfl⟩
  have hXs:X.heap.size=w1.heap.size+1+1:=by rw [hX];simp
  have ct:Calls Tryd.prog 78 #[.int .u8 3,.slice (some ⟨w1.heap.size+1,0,none⟩) 2 2] X fun e w'=>∃ a' c',e=.returned (.slice a' 41 c')∧w'.ownsRow X.heap.size 5 1 (.slice a' 41 c') 41 (z00 (INTS (3 :: (BE8 n ++ (List.range 32).map r))))∧Below X.heap.size X w':=by
    have hh1:=zc2 w1.drew n
    have hh2:Has (w1.drew.alloc (.cells (BARR 8 (BYTE n 8)) 5)) w.heap.size (UARR .u8 32 r) 26:=(show Has w1.drew w.heap.size (UARR .u8 32 r) 26 from U.out.2).alloc _
    have k:=z7r 3 (by decide) _ 2 2 _ _ (zc3 H.out (by simp) hh1 hh2) (fun p hp=>by simp only [List.mem_cons,List.not_mem_nil,or_false] at hp;rcases hp with rfl | rfl <;> (intro e;cases e)) (by rw [z88];simp [BE8]) (by decide)
    have e41:(BE8 n ++ (List.range 32).map r).length+1=41:=by simp [BE8]
    rw [z88,e41] at k
    have es:(w1.drew.alloc (.cells (BARR 8 (BYTE n 8)) 5)).heap.size=w1.heap.size+1:=by simp
    rw [hX]
    rw [es] at k
    exact k
  have HX:Aside (Below w.heap.size w X∧w.heap.size≤X.heap.size):=⟨by rw [hX];exact (U.out.1.drew.alloc U.out.1.size _).alloc (by have:=U.out.1.size;simp;omega) _,by rw [hXs];have:=U.out.1.size;omega⟩
  rw [hX] at ct
  go_region_held3 (fun _=>True) (trivial) (first | (go_at_call 79;refine (ci _).mono ?_;rintro e w4 ⟨rfl,rfl⟩) | (go_at_call 78;refine ct.mono ?_;rintro e w5 ⟨a5,c5,rfl,hown5,hb5⟩))
  rw [← hX] at hown5 hb5
  have S:Aside (w5.ownsRow w.heap.size 5 1 (.slice a5 41 c5) 41 (z00 (INTS (3 :: (BE8 n ++ (List.range 32).map r))))∧Below w.heap.size w w5):=⟨z18 hown5 HX.out.2,HX.out.1.trans (hb5.mono HX.out.2)⟩
  clear hown5 hb5 ct
  go_wp2
  go_ret
  exact ⟨a5,c5,rfl,S.out.1,S.out.2⟩
end Go.Proofs.YtbmjoiiagldklaaDoor.HX

namespace Go.Proofs.YtbmjoiiagldklaaDoor.HX
open Go.RowKit
set_option maxRecDepth 100000
theorem Has.whole {w:World} {g:Nat} {F:Nat→Nat} {k:IntKind} {n:Nat} {t:TypeId} (h:Has w g (UARR k n F) t):w.rangeAt g 0 (z09 k n F):=fun j v hv=>by
  have hj:j<n:=by have:=(List.getElem?_eq_some_iff.1 hv).1;rw [z0k] at this;exact this
  rw [z25 _ _ _ _ hj] at hv
  rw [Nat.zero_add,h.cell,z0f _ _ _ _ hj,hv]
theorem z6i (d n:Nat) (F G:Nat→Nat) (w:World):∀ is:List Nat,(∀ i∈is,i<n)→(Op.eqItems (d+1) 5 1 (UARR .u8 n F) (UARR .u8 n G) is).run Tryd.prog w=.ok (is.all fun i=>F i == G i) w
  | [],_=>by simp [Op.eqItems]
  | i :: is,h=>by
    have hp:Tryd.prog.plainKey 5=true:=by kernel_rfl
    have hi:i<n:=h i (by simp)
    have h1:=run_part_plain (P:=Tryd.prog) w hp (z0f .u8 n F i hi)
    have h2:=run_part_plain (P:=Tryd.prog) w hp (z0f .u8 n G i hi)
    have h3:=run_equalIn_int (P:=Tryd.prog) w d 5 .u8 .u8 (F i:Nat) (G i:Nat) Tryd.underlying5
    have ih:=z6i d n F G w is (fun j hj=>h j (by simp [hj]))
    rw [Op.eqItems,Nat.mul_one]
    simp only [Sem.run_bind,h1,h2,h3,Result.andThen_ok]
    by_cases e:F i=G i
    · simp [e,ih]
    · have e2:((F i:Int) == (G i:Int))=false:=by simp;omega
      simp [e2,e]
theorem z1p (F G:Nat→Nat) (w:World):(Op.equalIn 10000 26 (.agg (UARR .u8 32 F)) (.agg (UARR .u8 32 G))).run Tryd.prog w=.ok ((List.range 32).all fun i=>F i == G i) w:=by
  obtain ⟨i8,hi,_⟩:=Option.map_eq_some_iff.1 z0U
  rw [run_equalIn_array (P:=Tryd.prog) w 9999 (UARR .u8 32 F) (UARR .u8 32 G) Tryd.underlying26 hi]
  have hc:Tryd.prog.cellsOf 5=1:=by kernel_rfl
  rw [hc]
  exact z6i 9998 32 F G w _ (fun i hi=>by simpa using hi)
end Go.Proofs.YtbmjoiiagldklaaDoor.HX

namespace Go.Proofs.YtbmjoiiagldklaaDoor.HX
open Go.RowKit
set_option maxRecDepth 100000
theorem zds {w:World} {base n c:Nat} {a:Option Addr} {l:List Nat} (h:w.ownsRow base 5 1 (.slice a n c) n (z00 (INTS l))) (hl:Small8 l):Text w a n l:=Text.of_bytes (z0B h (z1z hl)).1
theorem zf7 {w:World} {base n c s:Nat} {a:Option Addr} {t:TypeId} {xs:List Value} (h:w.ownsRow base t s (.slice a n c) n xs):a=none→c=0:=fun ha=>by
  rcases h.2 with ⟨hv,_⟩ | ⟨g,cap,cur,hv,_⟩
  · simp at hv
    exact hv.2.2
  · subst ha
    simp at hv
theorem zc4 {w:World} {a:Option Addr} {n c:Nat} {l:List Nat} (hA:Text w a n l) (hnc:n≤c) (hx:∀ x,a=some x→x.block<w.heap.size):Parts (w.alloc (.cells #[.slice a n c] 30)) (some ⟨w.heap.size,0,none⟩) 1 [⟨a,n,c,l⟩]:=
  ⟨rfl,fun _=>⟨w.heap.size,0,rfl,by simp,fun i p hp=>by
      have hi:i<1:=(List.getElem?_eq_some_iff.1 hp).1
      obtain rfl:i=0:=by omega
      simp only [List.getElem?_cons_zero,Option.some.injEq] at hp
      subst hp
      rw [World.cell?_alloc_at _ _ _ _ rfl]
      rfl⟩,fun p hp=>by
      simp only [List.mem_singleton] at hp
      subst hp
      exact ⟨hA.below ((Below.refl _ _).alloc (Nat.le_refl _) _),hnc,fun x e=>by have:=hx x e;simp;omega⟩⟩
theorem zdt {w:World} {B n c:Nat} {a:Option Addr} {l:List Nat} (h:w.ownsRow B 5 1 (.slice a n c) n (z00 (INTS l))) (hs:Small8 l):Parts (w.alloc (.cells #[.slice a n c] 30)) (some ⟨w.heap.size,0,none⟩) 1 [⟨a,n,c,l⟩]∧(a=none→c=0):=by
  refine ⟨zc4 (zds h hs) ?_ (fun x e=>?_),zf7 h⟩
  · exact (z0B h (z1z hs)).2
  · subst e
    rcases h.2 with ⟨e,_⟩ | ⟨g,c2,cur,e,_,hg,_⟩
    · simp at e
    · simp only [Value.slice.injEq,Option.some.injEq] at e
      rw [e.1]
      exact (Array.getElem?_eq_some_iff.1 hg).1
theorem z9e (a:Option Addr) (n c:Nat) (l:List Nat):JOIN [⟨a,n,c,l⟩]=l:=by simp [JOIN]
theorem z3k {x:Nat} {l:List Nat} (hx:x<256) (h:Small8 l):Small8 (x :: l):=fun y hy=>by
  rcases List.mem_cons.1 hy with rfl | hy
  · exact hx
  · exact h y hy
theorem z4X {l k:List Nat} (h1:Small8 l) (h2:Small8 k):Small8 (l ++ k):=fun y hy=>by
  rcases List.mem_append.1 hy with hy | hy
  · exact h1 y hy
  · exact h2 y hy
theorem z2f {f:Nat→Nat} (h:∀ i,f i<256):Small8 ((List.range 32).map f):=fun y hy=>by
  obtain ⟨i,_,rfl⟩:=List.mem_map.1 hy
  exact h i
theorem zdu (n:Nat):Small8 (BE8 n):=fun y hy=>by
  obtain ⟨i,_,rfl⟩:=List.mem_map.1 hy
  exact Nat.mod_lt _ (by decide)
theorem z6j {w:World} (d:Int) {B n c:Nat} {a:Option Addr} {l:List Nat} (h:w.ownsRow B 5 1 (.slice a n c) n (z00 (INTS l))) (hs:Small8 l) (hl:l.length<5000) (hT:Tabled w):
    Calls Tryd.prog 27 #[.int .i64 d,.slice (some ⟨w.heap.size,0,none⟩) 1 1] (w.alloc (.cells #[.slice a n c] 30)) fun e w'=>e=.returned (.agg (UARR .u8 32 (z0e d l)))∧Below (w.alloc (.cells #[.slice a n c] 30)).heap.size (w.alloc (.cells #[.slice a n c] 30)) w':=by
  have:=z9d d _ 1 1 _ _ (zdt h hs).1 (hT.below ((Below.refl _ _).alloc (Nat.le_refl _) _)) (by rw [z9e];omega) (by decide)
  rw [z9e] at this
  exact this
theorem zg3 (d:Int) (l r:Nat→Nat) (hl:∀ i,l i<256) (hr:∀ i,r i<256) (w:World) (hT:Tabled w):Calls Tryd.prog 90 #[.int .i64 d,.agg (UARR .u8 32 l),.agg (UARR .u8 32 r)] w fun e w'=>e=.returned (.agg (UARR .u8 32 (z0e d (1 :: ((List.range 32).map l ++ (List.range 32).map r)))))∧Below w.heap.size w w':=by
  have hz:=z1M
  have ct:=fun W=>z61 l r hl hr W
  have H:Aside ((∀ i,l i<256)∧(∀ i,r i<256)∧Tabled w):=⟨hl,hr,hT⟩
  obtain ⟨W,zb,lb,rb,hW,hzb,hlb,hrb,R,h4,h5⟩:∃ W zb lb rb,W=((w.alloc (.cells (UARR .u8 32 l) 26)).alloc (.cells (UARR .u8 32 r) 26)).alloc (.cells (UARR .u8 32 fun _=>0) 26)∧zb=w.heap.size+1+1∧lb=w.heap.size∧rb=w.heap.size+1∧Aside (Has W zb (UARR .u8 32 fun _=>0) 26∧Below w.heap.size w W∧w.heap.size≤zb)∧W.rangeAt lb 0 (z09 .u8 32 l)∧W.rangeAt rb 0 (z09 .u8 32 r):=by
    refine ⟨_,_,_,_,rfl,rfl,rfl,rfl,⟨Has.at _ _ _ (by simp),(((Below.refl _ _).alloc (Nat.le_refl _) _).alloc (by simp) _).alloc (by simp;omega) _,by omega⟩,(((Has.new w _ _).alloc _).alloc _).whole,((Has.at _ _ _ (by simp)).alloc _).whole⟩
  clear hl hr hT
  go_enter Tryd.func90,Tryd.ntmps90
  go_wp2_with (first
    | (rw [← hW];refine wpList_load_mid rfl 26 (.tmp 4) rfl w.heap.size 0 rfl (z09 .u8 32 l) (.array 32 5) (by rw [← hlb];exact h4) Tryd.underlying26 rfl (by rw [z0k];exact z15) ?_;rw [← z0l])
    | (refine wpList_load_mid rfl 26 (.tmp 5) rfl (w.heap.size+1) 0 rfl (z09 .u8 32 r) (.array 32 5) (by rw [← hrb];exact h5) Tryd.underlying26 rfl (by rw [z0k];exact z15) ?_;rw [← z0l]))
  rw [← hzb]
  refine (ct _).mono ?_
  rintro e w2 ⟨a',c',rfl,hown,hb⟩
  rw [← hW] at hown hb
  clear ct h4 h5 hW hzb hlb hrb
  have S:Aside (Has w2 zb (UARR .u8 32 fun _=>0) 26∧Below w.heap.size w w2):=⟨R.out.1.keep hb,R.out.2.1.trans (hb.mono R.out.2.1.size)⟩
  have cs:=z6j d hown (z3k (by decide) (z4X (z2f H.out.1) (z2f H.out.2.1))) (by simp) (H.out.2.2.below S.out.2)
  have Z:Aside (w.heap.size≤zb):=R.out.2.2
  clear hown hb R
  go_wp2_with fail
  refine cs.mono ?_
  rintro e w3 ⟨rfl,hb3⟩
  have hb4:Below w2.heap.size w2 w3:=((Below.refl _ _).alloc (Nat.le_refl _) _).trans (hb3.mono (by simp))
  have S2:Aside (Has w3 zb (UARR .u8 32 fun _=>0) 26∧Below w.heap.size w w3):=⟨S.out.1.keep hb4,S.out.2.trans (hb4.mono S.out.2.size)⟩
  clear cs hb3 hb4 S
  go_wp2_with (first
    | (refine wpList_store_row rfl 26 _ _ rfl _ _ rfl rfl _ _ S2.out.1 (z0d _) (by rw [z06,z06]) (z0r _ _ _) ?_))
  refine bodyPost_ret (v:=.agg (UARR .u8 32 (z0e d (1 :: ((List.range 32).map l ++ (List.range 32).map r))))) ?_ rfl ⟨rfl,z0q S2.out.2 Z.out _⟩
  exact results_cell_row rfl _ _ zb 26 _ (0,0) _ rfl (S2.out.1.row _) Tryd.underlying26 rfl (z0d _)
theorem zg4 (d:Int) (l r:Nat→Nat) (hl:∀ i,l i<256) (hr:∀ i,r i<256) (w:World) (hT:Tabled w):Calls Tryd.prog 76 #[.int .i64 d,.agg (UARR .u8 32 l),.agg (UARR .u8 32 r)] w fun e w'=>e=.returned (.agg (UARR .u8 32 (z0e d (2 :: ((List.range 32).map l ++ (List.range 32).map r)))))∧Below w.heap.size w w':=by
  have hz:=z1M
  have ct:=fun W=>z62 l r hl hr W
  have H:Aside ((∀ i,l i<256)∧(∀ i,r i<256)∧Tabled w):=⟨hl,hr,hT⟩
  obtain ⟨W,zb,lb,rb,hW,hzb,hlb,hrb,R,h4,h5⟩:∃ W zb lb rb,W=((w.alloc (.cells (UARR .u8 32 l) 26)).alloc (.cells (UARR .u8 32 r) 26)).alloc (.cells (UARR .u8 32 fun _=>0) 26)∧zb=w.heap.size+1+1∧lb=w.heap.size∧rb=w.heap.size+1∧Aside (Has W zb (UARR .u8 32 fun _=>0) 26∧Below w.heap.size w W∧w.heap.size≤zb)∧W.rangeAt lb 0 (z09 .u8 32 l)∧W.rangeAt rb 0 (z09 .u8 32 r):=by
    refine ⟨_,_,_,_,rfl,rfl,rfl,rfl,⟨Has.at _ _ _ (by simp),(((Below.refl _ _).alloc (Nat.le_refl _) _).alloc (by simp) _).alloc (by simp;omega) _,by omega⟩,(((Has.new w _ _).alloc _).alloc _).whole,((Has.at _ _ _ (by simp)).alloc _).whole⟩
  clear hl hr hT
  go_enter Tryd.func76,Tryd.ntmps76
  go_wp2_with (first
    | (rw [← hW];refine wpList_load_mid rfl 26 (.tmp 4) rfl w.heap.size 0 rfl (z09 .u8 32 l) (.array 32 5) (by rw [← hlb];exact h4) Tryd.underlying26 rfl (by rw [z0k];exact z15) ?_;rw [← z0l])
    | (refine wpList_load_mid rfl 26 (.tmp 5) rfl (w.heap.size+1) 0 rfl (z09 .u8 32 r) (.array 32 5) (by rw [← hrb];exact h5) Tryd.underlying26 rfl (by rw [z0k];exact z15) ?_;rw [← z0l]))
  rw [← hzb]
  refine (ct _).mono ?_
  rintro e w2 ⟨a',c',rfl,hown,hb⟩
  rw [← hW] at hown hb
  clear ct h4 h5 hW hzb hlb hrb
  have S:Aside (Has w2 zb (UARR .u8 32 fun _=>0) 26∧Below w.heap.size w w2):=⟨R.out.1.keep hb,R.out.2.1.trans (hb.mono R.out.2.1.size)⟩
  have cs:=z6j d hown (z3k (by decide) (z4X (z2f H.out.1) (z2f H.out.2.1))) (by simp) (H.out.2.2.below S.out.2)
  have Z:Aside (w.heap.size≤zb):=R.out.2.2
  clear hown hb R
  go_wp2_with fail
  refine cs.mono ?_
  rintro e w3 ⟨rfl,hb3⟩
  have hb4:Below w2.heap.size w2 w3:=((Below.refl _ _).alloc (Nat.le_refl _) _).trans (hb3.mono (by simp))
  have S2:Aside (Has w3 zb (UARR .u8 32 fun _=>0) 26∧Below w.heap.size w w3):=⟨S.out.1.keep hb4,S.out.2.trans (hb4.mono S.out.2.size)⟩
  clear cs hb3 hb4 S
  go_wp2_with (first
    | (refine wpList_store_row rfl 26 _ _ rfl _ _ rfl rfl _ _ S2.out.1 (z0d _) (by rw [z06,z06]) (z0r _ _ _) ?_))
  refine bodyPost_ret (v:=.agg (UARR .u8 32 (z0e d (2 :: ((List.range 32).map l ++ (List.range 32).map r))))) ?_ rfl ⟨rfl,z0q S2.out.2 Z.out _⟩
  exact results_cell_row rfl _ _ zb 26 _ (0,0) _ rfl (S2.out.1.row _) Tryd.underlying26 rfl (z0d _)
theorem zg5 (d:Int) (n:Nat) (hn:n<2 ^ 64) (r:Nat→Nat) (hr:∀ i,r i<256) (w:World) (hT:Tabled w):Calls Tryd.prog 46 #[.int .i64 d,.int .u64 (n:Int),.agg (UARR .u8 32 r)] w fun e w'=>e=.returned (.agg (UARR .u8 32 (z0e d (3 :: (BE8 n ++ (List.range 32).map r)))))∧Below w.heap.size w w':=by
  have hz:=z1M
  have ct:=fun W=>z63 n hn r hr W
  have H:Aside ((∀ i,r i<256)∧Tabled w):=⟨hr,hT⟩
  obtain ⟨W,zb,rb,hW,hzb,hrb,R,h5⟩:∃ W zb rb,W=(w.alloc (.cells (UARR .u8 32 r) 26)).alloc (.cells (UARR .u8 32 fun _=>0) 26)∧zb=w.heap.size+1∧rb=w.heap.size∧Aside (Has W zb (UARR .u8 32 fun _=>0) 26∧Below w.heap.size w W∧w.heap.size≤zb)∧W.rangeAt rb 0 (z09 .u8 32 r):=by
    refine ⟨_,_,_,rfl,rfl,rfl,⟨Has.at _ _ _ (by simp),((Below.refl _ _).alloc (Nat.le_refl _) _).alloc (by simp) _,by omega⟩,((Has.new w _ _).alloc _).whole⟩
  clear hn hr hT
  go_enter Tryd.func46,Tryd.ntmps46
  go_wp2_with (first
    | (rw [← hW];refine wpList_load_mid rfl 26 (.tmp 5) rfl w.heap.size 0 rfl (z09 .u8 32 r) (.array 32 5) (by rw [← hrb];exact h5) Tryd.underlying26 rfl (by rw [z0k];exact z15) ?_;rw [← z0l]))
  rw [← hzb]
  refine (ct _).mono ?_
  rintro e w2 ⟨a',c',rfl,hown,hb⟩
  rw [← hW] at hown hb
  clear ct h5 hW hzb hrb
  have S:Aside (Has w2 zb (UARR .u8 32 fun _=>0) 26∧Below w.heap.size w w2):=⟨R.out.1.keep hb,R.out.2.1.trans (hb.mono R.out.2.1.size)⟩
  have cs:=z6j d hown (z3k (by decide) (z4X (zdu n) (z2f H.out.1))) (by simp [BE8]) (H.out.2.below S.out.2)
  have Z:Aside (w.heap.size≤zb):=R.out.2.2
  clear hown hb R
  go_wp2_with fail
  refine cs.mono ?_
  rintro e w3 ⟨rfl,hb3⟩
  have hb4:Below w2.heap.size w2 w3:=((Below.refl _ _).alloc (Nat.le_refl _) _).trans (hb3.mono (by simp))
  have S2:Aside (Has w3 zb (UARR .u8 32 fun _=>0) 26∧Below w.heap.size w w3):=⟨S.out.1.keep hb4,S.out.2.trans (hb4.mono S.out.2.size)⟩
  clear cs hb3 hb4 S
  go_wp2_with (first
    | (refine wpList_store_row rfl 26 _ _ rfl _ _ rfl rfl _ _ S2.out.1 (z0d _) (by rw [z06,z06]) (z0r _ _ _) ?_))
  refine bodyPost_ret (v:=.agg (UARR .u8 32 (z0e d (3 :: (BE8 n ++ (List.range 32).map r))))) ?_ rfl ⟨rfl,z0q S2.out.2 Z.out _⟩
  exact results_cell_row rfl _ _ zb 26 _ (0,0) _ rfl (S2.out.1.row _) Tryd.underlying26 rfl (z0d _)
end Go.Proofs.YtbmjoiiagldklaaDoor.HX

namespace Go.Proofs.YtbmjoiiagldklaaDoor
open Go.RowKit
set_option maxRecDepth 100000
def LST (f:Nat→Nat):List Int:=(List.range 32).map fun i=>((f i:Nat):Int)
def FNC (h:List Int) (i:Nat):Nat:=(h.getD i 0).toNat
def IsH (h:List Int):Prop:=h.length=32∧∀ x∈h,0≤x∧x≤255
theorem z6P (f:Nat→Nat):(LST f).length=32:=by simp [LST]
theorem z6Q {f:Nat→Nat} (h:∀ i,f i<256):IsH (LST f):=⟨z6P f,fun x hx=>by
  obtain ⟨i,_,rfl⟩:=List.mem_map.1 hx
  have:=h i
  omega⟩
theorem z2g (f:Nat→Nat):HX.UARR .u8 32 f=(z00 (LST f)).toArray:=by
  unfold HX.UARR z00 LST
  rw [List.map_map]
  rfl
theorem z7s {h:List Int} (hh:IsH h):LST (FNC h)=h:=by
  apply List.ext_getElem (by rw [z6P,hh.1])
  intro i h1 h2
  simp only [LST,List.getElem_map,List.getElem_range,FNC]
  have:=hh.2 h[i] (List.getElem_mem h2)
  rw [List.getD_eq_getElem?_getD,List.getElem?_eq_getElem h2,Option.getD_some]
  omega
theorem z0P {h:List Int} (hh:IsH h):(z00 h).toArray=HX.UARR .u8 32 (FNC h):=by rw [z2g,z7s hh]
theorem z1E {h:List Int} (hh:IsH h) (i:Nat):FNC h i<256:=by
  unfold FNC
  by_cases hi:i<h.length
  · rw [List.getD_eq_getElem?_getD,List.getElem?_eq_getElem hi,Option.getD_some]
    have:=hh.2 h[i] (List.getElem_mem hi)
    omega
  · rw [List.getD_eq_getElem?_getD,List.getElem?_eq_none (by omega)]
    decide
def NATS (h:List Int):List Nat:=(List.range 32).map (FNC h)
def z0F (d:Int) (l r:List Int):List Int:=LST (HX.z0e d (1 :: (NATS l ++ NATS r)))
def z1q (d:Int) (l r:List Int):List Int:=LST (HX.z0e d (2 :: (NATS l ++ NATS r)))
def z1A (d:Int) (n:Nat) (r:List Int):List Int:=LST (HX.z0e d (3 :: (HX.BE8 n ++ NATS r)))
theorem z2U (d:Int) (l r:List Int):IsH (z0F d l r):=z6Q fun i=>HX.z1Z d _ _ i
theorem z6k (d:Int) (l r:List Int):IsH (z1q d l r):=z6Q fun i=>HX.z1Z d _ _ i
theorem z9f (d:Int) (n:Nat) (r:List Int):IsH (z1A d n r):=z6Q fun i=>HX.z1Z d _ _ i
theorem zf8 (d:Int) (l r:List Int) (hl:IsH l) (hr:IsH r) (w:World) (hT:HX.Tabled w):Calls Tryd.prog 90 #[.int .i64 d,.agg (z00 l).toArray,.agg (z00 r).toArray] w fun e w'=>e=.returned (.agg (z00 (z0F d l r)).toArray)∧Below w.heap.size w w':=by
  rw [z0P hl,z0P hr]
  refine (HX.zg3 d (FNC l) (FNC r) (z1E hl) (z1E hr) w hT).mono ?_
  rintro e w' ⟨rfl,hb⟩
  exact ⟨by rw [z2g];rfl,hb⟩
theorem zf9 (d:Int) (l r:List Int) (hl:IsH l) (hr:IsH r) (w:World) (hT:HX.Tabled w):Calls Tryd.prog 76 #[.int .i64 d,.agg (z00 l).toArray,.agg (z00 r).toArray] w fun e w'=>e=.returned (.agg (z00 (z1q d l r)).toArray)∧Below w.heap.size w w':=by
  rw [z0P hl,z0P hr]
  refine (HX.zg4 d (FNC l) (FNC r) (z1E hl) (z1E hr) w hT).mono ?_
  rintro e w' ⟨rfl,hb⟩
  exact ⟨by rw [z2g];rfl,hb⟩
theorem zfa (d:Int) (n:Nat) (hn:n<2 ^ 64) (r:List Int) (hr:IsH r) (w:World) (hT:HX.Tabled w):Calls Tryd.prog 46 #[.int .i64 d,.int .u64 (n:Int),.agg (z00 r).toArray] w fun e w'=>e=.returned (.agg (z00 (z1A d n r)).toArray)∧Below w.heap.size w w':=by
  rw [z0P hr]
  refine (HX.zg5 d n hn (FNC r) (z1E hr) w hT).mono ?_
  rintro e w' ⟨rfl,hb⟩
  exact ⟨by rw [z2g];rfl,hb⟩
end Go.Proofs.YtbmjoiiagldklaaDoor

namespace Go.Proofs.YtbmjoiiagldklaaDoor
open Go.RowKit
set_option maxRecDepth 100000
theorem zg6 {l k:List Int} {n:Nat} (hl:l.length=32*n) (hk:k.length=32*n) (h:∀ i,i<n→HSH l i=HSH k i):l=k:=by
  have e:∀ i,i≤n→l.take (32*i)=k.take (32*i):=by
    intro i
    induction i with
    | zero=>intro _;simp
    | succ i ih=>intro hi;rw [z6h,z6h,ih (by omega),h i (by omega)]
  have:=e n (Nat.le_refl _)
  rwa [List.take_of_length_le (by omega),List.take_of_length_le (by omega)] at this
end Go.Proofs.YtbmjoiiagldklaaDoor

namespace Go.Proofs.YtbmjoiiagldklaaDoor
open Go.RowKit
set_option maxRecDepth 100000
theorem zdv {w:World} {base g n cap:Nat} {l:List Int} {x:Int} (h:w.ownsRow base 5 1 (.slice (some ⟨g,0,none⟩) (n+1) cap) (n+1) (z00 (l ++ [x]))) (hl:l.length=n):w.ownsRow base 5 1 (.slice (some ⟨g,0,none⟩) n cap) n (z00 l)∧n+1≤cap∧w.cell? ⟨g,n,none⟩=some (.int .u8 x):=by
  have hc:=h.cellAt n (by omega)
  have hx:(z00 (l ++ [x]))[n]?=some (.int .u8 x):=by
    rw [← hl]
    simp [z00]
  rcases h.2 with ⟨e,_⟩ | ⟨g',cap',cur,e,hb,hg,h1,h2,h3,h4⟩
  · cases e
  · cases e
    refine ⟨⟨by rw [z00,List.length_map,hl,Nat.mul_one],.inr ⟨g,cap,cur,rfl,hb,hg,by omega,h2,h3,?_⟩⟩,h1,hc.trans hx⟩
    have h5:=congrArg (List.take (n*1)) h4
    rw [List.take_take,show min (n*1) ((n+1)*1)=n*1 by omega] at h5
    rw [h5,z1k,List.take_left' (by rw [z00,List.length_map,hl,Nat.mul_one])]
def z9g (w:World) (n:Nat) (l:List Int) (e:Ending) (w':World):Prop:=
  ∃ g cap,e=.returned (.slice (some ⟨g,0,none⟩) n cap)∧w'.ownsRow w.heap.size 5 1 (.slice (some ⟨g,0,none⟩) n cap) n (z00 l)∧n+1≤cap∧w'.cell? ⟨g,n,none⟩=some (.int .u8 171)∧g<w'.heap.size∧Below w.heap.size w w'
end Go.Proofs.YtbmjoiiagldklaaDoor

namespace Go.Proofs.YtbmjoiiagldklaaDoor
open Go.RowKit
set_option maxRecDepth 100000
theorem zc5 {w:World} {B n:Nat} {v:Value} {xs:List Value} (h:w.ownsRow B 26 32 v n xs):∃ a c,v=.slice a n c∧n≤c∧(0<n→∃ g,a=some ⟨g,0,none⟩):=by
  rcases h.2 with ⟨rfl,h0⟩ | ⟨g,cap,cur,rfl,_,_,h1,_⟩
  · subst h0
    exact ⟨none,0,rfl,Nat.le_refl _,fun h=>by omega⟩
  · exact ⟨_,_,rfl,h1,fun _=>⟨g,rfl⟩⟩
end Go.Proofs.YtbmjoiiagldklaaDoor

namespace Go.Proofs.YtbmjoiiagldklaaDoor
open Go.RowKit
set_option maxRecDepth 100000
theorem Flat.other {w:World} {b o n:Nat} {l:List Int} (h:Flat w (some ⟨b,o,none⟩) n l) {a:Addr} (ha:b≠a.block) (u:Value):Flat (w.setCell a u) (some ⟨b,o,none⟩) n l:=
  ⟨h.1,fun hn=>by
    obtain ⟨b',o',e,hl,hc⟩:=h.2.1 hn
    cases e
    exact ⟨b,o,rfl,Nat.lt_of_lt_of_le hl (KeepsWalks.setCell w a u).size,fun j hj=>(World.cell?_setCell_other w _ _ u (fun e=>ha (congrArg Addr.block e).symm)).trans (hc j hj)⟩,h.2.2⟩
theorem z6l {w:World} {B n:Nat} {a:Option Addr} {c:Nat} {l:List Int} (h:w.ownsRow B 26 32 (.slice a n c) n (z00 l)) (hr:∀ x∈l,0≤x∧x≤255):Flat w a n l:=by
  have hl:l.length=32*n:=by have:=h.1;simpa [z00,Nat.mul_comm] using this
  refine ⟨hl,fun hn=>?_,hr⟩
  rcases h.2 with ⟨e,h0⟩ | ⟨g,cap,cur,e,_,hg,_⟩
  · omega
  · cases e
    refine ⟨g,0,rfl,(Array.getElem?_eq_some_iff.1 hg).1,fun j hj=>?_⟩
    have:=h.cellAt j (by omega)
    rw [Nat.zero_add,this,z0Q l j (by omega)]
theorem z9h {w:World} {g n:Nat} {l:List Int} (h:Has w g (z00 l).toArray 26) (hl:l.length=32*n) (hr:∀ x∈l,0≤x∧x≤255):Flat w (some ⟨g,0,none⟩) n l:=
  ⟨hl,fun _=>⟨g,0,rfl,h.lt,fun j hj=>by rw [Nat.zero_add,h.cell,List.getElem?_toArray,z0Q l j (by omega)]⟩,hr⟩
theorem Bytes.take {w:World} {a:Option Addr} {n:Nat} {l:List Int} (h:Bytes w a n l) {m:Nat} (hm:m≤n):Bytes w a m (l.take m):=by
  refine ⟨by rw [List.length_take,h.1];omega,fun h0=>?_,fun x hx=>h.2.2 x (List.mem_of_mem_take hx)⟩
  obtain ⟨b,o,e,hb,hc⟩:=h.2.1 (by omega)
  refine ⟨b,o,e,hb,fun i hi=>?_⟩
  rw [hc i (by omega),List.getD_eq_getElem?_getD,List.getD_eq_getElem?_getD,List.getElem?_take,if_pos hi]
end Go.Proofs.YtbmjoiiagldklaaDoor
