/- Texts of CarryEvents, one behind the other: HashText, HashPairTexts, HashRootText, HashEq, HashSumPlain, VerifyHash, VerifyHanded. -/
import Derived.ChangeKeysEq
import Derived.Deep.RegionHeldLaw
import Derived.Deep.RegionHeld3
import Derived.Test.YtkpgbhokoohimaaDoorCarryEventsP7
import Derived.Test.YtkpgbhokoohimaaDoorCarryEventsP8
import Derived.Test.YtkpgbhokoohimaaDoorCarryEventsP10
import Derived.Test.YtkpgbhokoohimaaDoorCarryEventsP15
/- What text of package hash answers. -/
namespace Go.Proofs.YtkpgbhokoohimaaDoor.HX
open Go.RowKit
set_option maxRecDepth 100000

theorem make_room (q : Nat) (hq : q ≤ 1000000) (w : World) : (Instr.makeSlice 28 (.int .i64 0) (.int .i64 (q : Int))).run Tryd.prog w = .ok (.slice (some ⟨w.heap.size,0,none⟩) 0 q) (w.alloc (.cells (BARR q fun _ => 0) 5)) := by
  obtain ⟨i8,hi,h8⟩ := Option.map_eq_some_iff.1 info_u8
  simp only [Prod.mk.injEq] at h8
  have h := run_make (P := Tryd.prog) w 28 5 i8 (.int .u8 0) Tryd.underlying28 hi h8.1 .i64 .i64 0 (q : Int) (by omega) (by omega) (by rw [h8.2.2]; omega) (by omega)
  rw [h8.2.1] at h
  have e : madeCells (Value.int .u8 0).cells (((q : Int).toNat) * 1) = BARR q fun _ => 0 := by
    rw [Int.toNat_natCast,Nat.mul_one]
    exact BARR_made q
  rw [e] at h
  exact h
theorem owns_room (w : World) (q : Nat) (hq : q ≤ 1000000) : (w.alloc (.cells (BARR q fun _ => 0) 5)).ownsRow w.heap.size 5 1 (.slice (some ⟨w.heap.size,0,none⟩) 0 q) 0 (CELLS (INTS [])) :=
  ⟨by simp [CELLS,INTS],Or.inr ⟨w.heap.size,q,BARR q fun _ => 0,rfl,Nat.le_refl _,Has.new w _ _,Nat.zero_le _,by simp only [maxLen]; omega,by rw [BARR_size]; omega,by simp [CELLS,INTS]⟩⟩
theorem Parts.at {w : World} {a : Option Addr} {k : Nat} {ps : List PART} (h : Parts w a k ps) {i : Nat} (hi : i < k) : ∃ b off p,a = some ⟨b,off,none⟩ ∧ b < w.heap.size ∧ ps[i]? = some p ∧ w.cell? ⟨b,off + i,none⟩ = some (.slice p.a p.n p.c) ∧ Text w p.a p.n p.l ∧ ps.take (i + 1) = ps.take i ++ [p] ∧ p ∈ ps := by
  obtain ⟨b,off,e,hl,hc⟩ := h.2.1 (by omega)
  have hp : ps[i]? = some (ps[i]'(by have := h.1; omega)) := List.getElem?_eq_getElem _
  exact ⟨b,off,_,e,hl,hp,hc i _ hp,(h.2.2 _ (List.mem_of_getElem? hp)).1,by rw [List.take_add_one,hp,Option.toList_some],List.mem_of_getElem? hp⟩

set_option maxHeartbeats 1000000 in
theorem text_ok (o : Nat) (ho : o < 256) (a : Option Addr) (k c : Nat) (ps : List PART) (w : World) (hP : Parts w a k ps) (hnone : ∀ p ∈ ps,p.a = none → p.c = 0) (hlen : (JOIN ps).length < 5000) (hkk : k < 2 ^ 40) : Calls Tryd.prog 66 #[.int .u8 (o : Int),.slice a k c] w fun e w' =>
    ∃ a' c',e = .returned (.slice a' ((JOIN ps).length + 1) c') ∧ w'.ownsRow w.heap.size 5 1 (.slice a' ((JOIN ps).length + 1) c') ((JOIN ps).length + 1) (CELLS (INTS (o :: JOIN ps))) ∧ Below w.heap.size w w' := by
  have H : Aside (Parts w a k ps ∧ (JOIN ps).length < 5000 ∧ k < 2 ^ 40 ∧ (∀ p ∈ ps,p.a = none → p.c = 0) ∧ o < 256) := ⟨hP,hlen,hkk,hnone,ho⟩
  clear hP hlen hkk hnone ho
  go_enter Tryd.func66,Tryd.ntmps66
  go_wp2_with fail
  go_loopg [5,13] k (fun r s5 s13 wx => ∃ i L : Nat,i + r = k ∧ s13 = .int .i64 i ∧ s5 = .int .i64 L ∧ w = wx ∧ Aside (L = (JOIN (ps.take i)).length + 1))
  case atStart => exact ⟨0,1,by omega,rfl,rfl,rfl,rfl⟩
  case round =>
    obtain ⟨i,L,hir,rfl,rfl,rfl,A⟩ := hrel
    have hk : ps.length = k := H.out.1.1
    cases gk with
    | zero =>
      obtain rfl : i = k := by omega
      rw [List.take_of_length_le (by omega)] at A
      have hL : L ≤ 1000000 := by have := A.out; have := H.out.2.1; omega
      have hmk := make_room L hL
      have hO : Aside ((w.alloc (.cells (BARR L fun _ => 0) 5)).ownsRow w.heap.size 5 1 (.slice (some ⟨w.heap.size,0,none⟩) 0 L) 0 (CELLS (INTS []))) := owns_room w L hL
      have HM : Aside (Bytes ((w.alloc (.cells (BARR L fun _ => 0) 5)).alloc (.cells #[.int .u8 (o : Int)] 5)) (some ⟨w.heap.size + 1,0,none⟩) 1 [(o : Int)]) := by
        have h := row_bytes (w.alloc (.cells (BARR L fun _ => 0) 5)) 1 (fun _ => (o : Int)) [(o : Int)] rfl (fun i hi => by obtain rfl : i = 0 := (by omega); rfl) (fun x hx => by simp at hx; have := H.out.2.2.2.2; omega)
        have e : (w.alloc (.cells (BARR L fun _ => 0) 5)).heap.size = w.heap.size + 1 := by simp
        rw [e] at h
        exact h
      have HB : Aside (Below w.heap.size w ((w.alloc (.cells (BARR L fun _ => 0) 5)).alloc (.cells #[.int .u8 (o : Int)] 5))) := ((Below.refl _ _).alloc (Nat.le_refl _) _).alloc (by simp) _
      clear hL hk hir
      go_wp2_with (at_builtin; refine app_u8 _ rfl (.tmp 23) (.tmp 25) rfl w.heap.size (.slice (some ⟨w.heap.size,0,none⟩) 0 L) 0 (INTS []) rfl (hO.out.alloc _) (w.heap.size + 1) 0 1 1 [(o : Int)] rfl HM.out (by decide) (by decide) (by simp; omega) ?_; intro g8 cap8 w8 hown8 hgrow8 hg8)
      have S : Aside (w8.ownsRow w.heap.size 5 1 (.slice (some ⟨g8,0,none⟩) (0 + 1) cap8) (0 + 1) (CELLS (INTS (o :: JOIN (ps.take 0)))) ∧ Below w.heap.size w w8) := ⟨hown8,HB.out.grown hgrow8 (by simp; omega) (fun k e => by simp [Value.ownBlock] at e; omega)⟩
      clear hown8 hgrow8 hg8 HB HM hO hmk A
      go_loopg [8,29] i (fun r s8 s29 wx => ∃ (j N : Nat) (a8 : Option Addr) (c8 : Nat),j + r = i ∧ s29 = .int .i64 j ∧ s8 = .slice a8 N c8 ∧ Aside (N = (JOIN (ps.take j)).length + 1 ∧ wx.ownsRow w.heap.size 5 1 (.slice a8 N c8) N (CELLS (INTS (o :: JOIN (ps.take j)))) ∧ Below w.heap.size w wx))
      case atStart => exact ⟨0,0 + 1,_,_,by omega,rfl,rfl,rfl,S.out.1,S.out.2⟩
      case round =>
        obtain ⟨j,N,a8,c8,hjr,rfl,rfl,A⟩ := hrel
        have hk : ps.length = i := H.out.1.1
        cases gk with
        | zero =>
          obtain rfl : j = i := by omega
          rw [List.take_of_length_le (by omega)] at A
          clear hk
          go_wp2
          go_ret
          obtain ⟨e1,e2,e3⟩ := A.out
          subst e1
          exact ⟨a8,c8,rfl,e2,e3⟩
        | succ r =>
          obtain ⟨pb,po,p,rfl,hpb,hpi,hc,ht,htk,hpm⟩ := H.out.1.at (i := j) (by omega)
          have hlt : (j : Int) < (i : Int) := by omega
          have hl1 := JOIN_take_length ps (j + 1)
          rw [htk,JOIN_snoc,List.length_append,ht.1] at hl1
          have hcr := (A.out.2.2.cell (p := ⟨pb,po + j,none⟩) (by exact hpb)).trans hc
          have S2 : Aside (N + p.n = (JOIN (ps.take (j + 1))).length + 1 ∧ j + (r + 1) = i ∧ N + p.n ≤ 140737488355328 ∧ Bytes wr p.a p.n (INTS p.l) ∧ (p.a = none → p.c = 0) ∧ INTS (o :: JOIN (ps.take j)) ++ INTS p.l = INTS (o :: JOIN (ps.take (j + 1)))) := ⟨by rw [htk,JOIN_snoc,List.length_append,ht.1]; have := A.out.1; omega,hjr,by have := A.out.1; have := H.out.2.1; omega,(ht.below A.out.2.2).bytes,H.out.2.2.2.1 p hpm,by rw [htk,JOIN_snoc, ← INTS_append]; rfl⟩
          clear hl1 htk ht hpi hk hc hpm hjr
          go_wp2_with (at_builtin; refine app_any _ rfl (.tmp 33) (.tmp 34) rfl w.heap.size (.slice a8 N c8) N (INTS (o :: JOIN (ps.take j))) rfl A.out.2.1 p.a p.n p.c (INTS p.l) rfl S2.out.2.2.2.1 S2.out.2.2.2.2.1 (N + p.n) (INTS (o :: JOIN (ps.take (j + 1)))) rfl S2.out.2.2.2.2.2 S2.out.2.2.1 A.out.2.2.size ?_; intro a9 c9 w9 hown9 hgrow9)
          go_roundg r
          case measure => omega
          case rel =>
            refine ⟨j + 1,N + p.n,a9,c9,by have := S2.out.2.1; omega, ?_,rfl,S2.out.1,hown9,A.out.2.2.grown hgrow9 A.out.2.2.size (fun k e => (A.out.2.1.lt k e).1)⟩
            have h1 := H.out.2.2.1
            have h2 : wrap64 ((j : Int) + 1) = ((j + 1 : Nat) : Int) := by unfold wrap64; omega
            rw [h2]
    | succ r =>
      obtain ⟨pb,po,p,rfl,hpb,hpi,hc,ht,htk,hpm⟩ := H.out.1.at (i := i) (by omega)
      have hlt : (i : Int) < (k : Int) := by omega
      have hl1 := JOIN_take_length ps (i + 1)
      rw [htk,JOIN_snoc,List.length_append,ht.1] at hl1
      have hw1 : IntKind.i64.wrap ((L : Int) + (p.n : Int)) = ((L + p.n : Nat) : Int) := by rw [IntKind.wrap_i64]; have := A.out; have := H.out.2.1; omega
      have S : Aside (L + p.n = (JOIN (ps.take (i + 1))).length + 1 ∧ i + (r + 1) = k) := ⟨by rw [htk,JOIN_snoc,List.length_append,ht.1]; have := A.out; omega,hir⟩
      clear hl1 htk ht hpi hk
      go_wp2
      go_roundg r
      case measure => omega
      case rel =>
        refine ⟨i + 1,L + p.n,by omega, ?_, ?_,rfl,S.out.1⟩
        · have h1 := H.out.2.2.1
          have h2 : wrap64 ((i : Int) + 1) = ((i + 1 : Nat) : Int) := by unfold wrap64; omega
          rw [h2]
        · go_num
end Go.Proofs.YtkpgbhokoohimaaDoor.HX

/- What LeafText, NodeText and FoldText of package hash answer. -/
namespace Go.Proofs.YtkpgbhokoohimaaDoor.HX
open Go.RowKit
set_option maxRecDepth 100000

theorem own_mono {w : World} {base base' : Nat} {t : TypeId} {s : Nat} {v : Value} {n : Nat} {xs : List Value} (h : w.ownsRow base t s v n xs) (hb : base' ≤ base) : w.ownsRow base' t s v n xs :=
  ⟨h.1,h.2.imp id fun ⟨g,c,cur,a,b,r⟩ => ⟨g,c,cur,a,Nat.le_trans hb b,r⟩⟩
theorem slice_whole (b : Nat) (w : World) : (Instr.sliceAt 24 (.pointer (some ⟨b,0,none⟩)) none none none).run Tryd.prog w = .ok (.slice (some ⟨b,0,none⟩) 32 32) w := by
  have hn : Tryd.prog.arrayLen 24 = 32 := by kernel_rfl
  rw [run_sliceAt_array_all w 24 ⟨b,0,none⟩ (by kernel_rfl),hn]
  have he : Tryd.prog.elem 24 = 5 := by kernel_rfl
  obtain ⟨i8,hi,h8⟩ := Option.map_eq_some_iff.1 info_u8
  simp only [Prod.mk.injEq] at h8
  rw [he]
  simp [sizeOf,typeInfo,hi,h8.2.1,slicedAt,Addr.add]
/-- the bytes of an array, as a text. -/
theorem Has.text {w : World} {g : Nat} {f : Nat → Nat} {t : TypeId} (h : Has w g (UARR .u8 32 f) t) (hf : ∀ i,f i < 256) : Text w (some ⟨g,0,none⟩) 32 ((List.range 32).map f) :=
  ⟨by simp,fun _ => ⟨g,0,rfl,h.lt,fun i hi => by rw [Nat.zero_add,h.cell,UARR_get _ _ _ _ hi,List.getD_eq_getElem?_getD,List.getElem?_map,List.getElem?_range hi]; rfl⟩,fun x hx => by obtain ⟨i,_,rfl⟩ := List.mem_map.1 hx; exact hf i⟩
theorem two_parts {w : World} {l r : Nat → Nat} {g h : Nat} {t u : TypeId} (hl : ∀ i,l i < 256) (hr : ∀ i,r i < 256) (h1 : Has w g (UARR .u8 32 l) t) (h2 : Has w h (UARR .u8 32 r) u) : Parts (w.alloc (.cells #[.slice (some ⟨g,0,none⟩) 32 32,.slice (some ⟨h,0,none⟩) 32 32] 28)) (some ⟨w.heap.size,0,none⟩) 2 [⟨some ⟨g,0,none⟩,32,32,(List.range 32).map l⟩,⟨some ⟨h,0,none⟩,32,32,(List.range 32).map r⟩] :=
  ⟨rfl,fun _ => ⟨w.heap.size,0,rfl,by simp,fun i p hp => by
    have hi : i < 2 := (List.getElem?_eq_some_iff.1 hp).1
    rw [World.cell?_alloc_at _ _ _ _ rfl]
    have h2 : i = 0 ∨ i = 1 := by omega
    rcases h2 with rfl | rfl <;> (simp at hp; subst hp; rfl)⟩,fun p hp => by
    simp only [List.mem_cons,List.not_mem_nil,or_false] at hp
    rcases hp with rfl | rfl
    · exact ⟨(h1.alloc _).text hl,Nat.le_refl _,fun x e => by simp only [Option.some.injEq] at e; rw [← e]; exact (h1.alloc _).lt⟩
    · exact ⟨(h2.alloc _).text hr,Nat.le_refl _,fun x e => by simp only [Option.some.injEq] at e; rw [← e]; exact (h2.alloc _).lt⟩⟩
theorem two_join (l r : Nat → Nat) (g h : Nat) : JOIN [⟨some ⟨g,0,none⟩,32,32,(List.range 32).map l⟩,⟨some ⟨h,0,none⟩,32,32,(List.range 32).map r⟩] = (List.range 32).map l ++ (List.range 32).map r := by simp [JOIN]

theorem nodetext_ok (l r : Nat → Nat) (hl : ∀ i,l i < 256) (hr : ∀ i,r i < 256) (w : World) : Calls Tryd.prog 56 #[.agg (UARR .u8 32 l),.agg (UARR .u8 32 r)] w fun e w' =>
    ∃ a' c',e = .returned (.slice a' 65 c') ∧ w'.ownsRow w.heap.size 5 1 (.slice a' 65 c') 65 (CELLS (INTS (1 :: ((List.range 32).map l ++ (List.range 32).map r)))) ∧ Below w.heap.size w w' := by
  have hs32 := slice_whole
  have H : Aside ((∀ i,l i < 256) ∧ (∀ i,r i < 256)) := ⟨hl,hr⟩
  clear hl hr
  go_enter Tryd.func56,Tryd.ntmps56
  go_wp2_with fail
  have U : Aside (Below w.heap.size w ((w.alloc (.cells (UARR .u8 32 l) 24)).alloc (.cells (UARR .u8 32 r) 24)) ∧ Has ((w.alloc (.cells (UARR .u8 32 l) 24)).alloc (.cells (UARR .u8 32 r) 24)) w.heap.size (UARR .u8 32 l) 24 ∧ Has ((w.alloc (.cells (UARR .u8 32 l) 24)).alloc (.cells (UARR .u8 32 r) 24)) (w.heap.size + 1) (UARR .u8 32 r) 24) := ⟨((Below.refl _ _).alloc (Nat.le_refl _) _).alloc (by simp) _,(Has.new w _ _).alloc _,Has.at _ _ _ (by simp)⟩
  generalize (w.alloc (.cells (UARR .u8 32 l) 24)).alloc (.cells (UARR .u8 32 r) 24) = w1 at *
  generalize hh : w.heap.size + 1 = h at *
  obtain ⟨X,hX⟩ : ∃ X,X = (w1.alloc (.cells #[.slice (some ⟨w.heap.size,0,none⟩) 32 32,.slice (some ⟨h,0,none⟩) 32 32] 28)).drew := ⟨_,rfl⟩
  have hXs : X.heap.size = w1.heap.size + 1 := by rw [hX]; simp [World.drew]
  have ct : Calls Tryd.prog 66 #[.int .u8 1,.slice (some ⟨w1.heap.size,0,none⟩) 2 2] X fun e w' => ∃ a' c',e = .returned (.slice a' 65 c') ∧ w'.ownsRow X.heap.size 5 1 (.slice a' 65 c') 65 (CELLS (INTS (1 :: ((List.range 32).map l ++ (List.range 32).map r)))) ∧ Below X.heap.size X w' := by
    have hh1 : Has w1.drew w.heap.size (UARR .u8 32 l) 24 := U.out.2.1
    have hh2 : Has w1.drew h (UARR .u8 32 r) 24 := U.out.2.2
    have k := text_ok 1 (by decide) _ 2 2 _ _ (two_parts H.out.1 H.out.2 hh1 hh2) (fun p hp => by simp only [List.mem_cons,List.not_mem_nil,or_false] at hp; rcases hp with rfl | rfl <;> (intro e; cases e)) (by rw [two_join]; simp) (by decide)
    have e65 : ((List.range 32).map l ++ (List.range 32).map r).length + 1 = 65 := by simp
    rw [two_join,e65] at k
    rw [hX]
    exact k
  have HX : Aside (Below w.heap.size w X ∧ w.heap.size ≤ X.heap.size) := ⟨by rw [hX]; exact (U.out.1.alloc U.out.1.size _).drew,by rw [hXs]; have := U.out.1.size; omega⟩
  rw [hX] at ct
  go_region_held3 (fun _ => True) (trivial) (first | (go_at_call 66; refine ct.mono ?_; rintro e w5 ⟨a5,c5,rfl,hown5,hb5⟩))
  rw [← hX] at hown5 hb5
  have S : Aside (w5.ownsRow w.heap.size 5 1 (.slice a5 65 c5) 65 (CELLS (INTS (1 :: ((List.range 32).map l ++ (List.range 32).map r)))) ∧ Below w.heap.size w w5) := ⟨own_mono hown5 HX.out.2,HX.out.1.trans (hb5.mono HX.out.2)⟩
  clear hown5 hb5 ct
  go_wp2
  go_ret
  exact ⟨a5,c5,rfl,S.out.1,S.out.2⟩

end Go.Proofs.YtkpgbhokoohimaaDoor.HX

/- What RootText of package hash answers. -/
namespace Go.Proofs.YtkpgbhokoohimaaDoor.HX
open Go.RowKit
set_option maxRecDepth 100000

end Go.Proofs.YtkpgbhokoohimaaDoor.HX

/- Two arrays held against each other. -/
namespace Go.Proofs.YtkpgbhokoohimaaDoor.HX
open Go.RowKit
set_option maxRecDepth 100000

theorem Has.whole {w : World} {g : Nat} {F : Nat → Nat} {k : IntKind} {n : Nat} {t : TypeId} (h : Has w g (UARR k n F) t) : w.rangeAt g 0 (ULIST k n F) := fun j v hv => by
  have hj : j < n := by have := (List.getElem?_eq_some_iff.1 hv).1; rw [ULIST_length] at this; exact this
  rw [ULIST_get _ _ _ _ hj] at hv
  rw [Nat.zero_add,h.cell,UARR_get _ _ _ _ hj,hv]
theorem range_below {B : Nat} {w w' : World} {g o : Nat} {cs : List Value} (h : w.rangeAt g o cs) (hb : Below B w w') (hg : g < B) : w'.rangeAt g o cs := fun j v hv => (hb.cell (by exact hg)).trans (h j v hv)
end Go.Proofs.YtkpgbhokoohimaaDoor.HX

/- The hashes of the texts: Leaf, Node, Fold and Root, of package hash alone. -/
namespace Go.Proofs.YtkpgbhokoohimaaDoor.HX
open Go.RowKit
set_option maxRecDepth 100000

theorem own_text' {w : World} {base n c : Nat} {a : Option Addr} {l : List Nat} (h : w.ownsRow base 5 1 (.slice a n c) n (CELLS (INTS l))) (hl : Small8 l) : Text w a n l := Text.of_bytes (own_bytes_any h (INTS_bounds hl)).1
theorem own_nil' {w : World} {base n c s : Nat} {a : Option Addr} {t : TypeId} {xs : List Value} (h : w.ownsRow base t s (.slice a n c) n xs) : a = none → c = 0 := fun ha => by
  rcases h.2 with ⟨hv,_⟩ | ⟨g,cap,cur,hv,_⟩
  · simp at hv
    exact hv.2.2
  · subst ha
    simp at hv
theorem lone_parts {w : World} {a : Option Addr} {n c : Nat} {l : List Nat} (hA : Text w a n l) (hnc : n ≤ c) (hx : ∀ x,a = some x → x.block < w.heap.size) : Parts (w.alloc (.cells #[.slice a n c] 28)) (some ⟨w.heap.size,0,none⟩) 1 [⟨a,n,c,l⟩] :=
  ⟨rfl,fun _ => ⟨w.heap.size,0,rfl,by simp,fun i p hp => by
      have hi : i < 1 := (List.getElem?_eq_some_iff.1 hp).1
      obtain rfl : i = 0 := by omega
      simp only [List.getElem?_cons_zero,Option.some.injEq] at hp
      subst hp
      rw [World.cell?_alloc_at _ _ _ _ rfl]
      rfl⟩,fun p hp => by
      simp only [List.mem_singleton] at hp
      subst hp
      exact ⟨hA.below ((Below.refl _ _).alloc (Nat.le_refl _) _),hnc,fun x e => by have := hx x e; simp; omega⟩⟩
/-- a text of one's own, as the one part of a sum. -/
theorem own_parts {w : World} {B n c : Nat} {a : Option Addr} {l : List Nat} (h : w.ownsRow B 5 1 (.slice a n c) n (CELLS (INTS l))) (hs : Small8 l) : Parts (w.alloc (.cells #[.slice a n c] 28)) (some ⟨w.heap.size,0,none⟩) 1 [⟨a,n,c,l⟩] ∧ (a = none → c = 0) := by
  refine ⟨lone_parts (own_text' h hs) ?_ (fun x e => ?_),own_nil' h⟩
  · exact (own_bytes_any h (INTS_bounds hs)).2
  · subst e
    rcases h.2 with ⟨e,_⟩ | ⟨g,c2,cur,e,_,hg,_⟩
    · simp at e
    · simp only [Value.slice.injEq,Option.some.injEq] at e
      rw [e.1]
      exact (Array.getElem?_eq_some_iff.1 hg).1
theorem join_one (a : Option Addr) (n c : Nat) (l : List Nat) : JOIN [⟨a,n,c,l⟩] = l := by simp [JOIN]
theorem small_cons' {x : Nat} {l : List Nat} (hx : x < 256) (h : Small8 l) : Small8 (x :: l) := fun y hy => by
  rcases List.mem_cons.1 hy with rfl | hy
  · exact hx
  · exact h y hy
theorem small_app' {l k : List Nat} (h1 : Small8 l) (h2 : Small8 k) : Small8 (l ++ k) := fun y hy => by
  rcases List.mem_append.1 hy with hy | hy
  · exact h1 y hy
  · exact h2 y hy
theorem small_map' {f : Nat → Nat} (h : ∀ i,f i < 256) : Small8 ((List.range 32).map f) := fun y hy => by
  obtain ⟨i,_,rfl⟩ := List.mem_map.1 hy
  exact h i
/-- the sum of one text of one's own, of package hash. -/
theorem lone_sum {w : World} (d : Int) {B n c : Nat} {a : Option Addr} {l : List Nat} (h : w.ownsRow B 5 1 (.slice a n c) n (CELLS (INTS l))) (hs : Small8 l) (hl : l.length < 5000) (hT : Tabled w) :
    Calls Tryd.prog 55 #[.int .i64 d,.slice (some ⟨w.heap.size,0,none⟩) 1 1] (w.alloc (.cells #[.slice a n c] 28)) fun e w' => e = .returned (.agg (UARR .u8 32 (HASHOF d l))) ∧ Below (w.alloc (.cells #[.slice a n c] 28)).heap.size (w.alloc (.cells #[.slice a n c] 28)) w' := by
  have := sum_ok d _ 1 1 _ _ (own_parts h hs).1 (hT.below ((Below.refl _ _).alloc (Nat.le_refl _) _)) (by rw [join_one]; omega) (by decide)
  rw [join_one] at this
  exact this
theorem node_ok (d : Int) (l r : Nat → Nat) (hl : ∀ i,l i < 256) (hr : ∀ i,r i < 256) (w : World) (hT : Tabled w) : Calls Tryd.prog 47 #[.int .i64 d,.agg (UARR .u8 32 l),.agg (UARR .u8 32 r)] w fun e w' => e = .returned (.agg (UARR .u8 32 (HASHOF d (1 :: ((List.range 32).map l ++ (List.range 32).map r))))) ∧ Below w.heap.size w w' := by
  have hz := zero32
  have ct := fun W => nodetext_ok l r hl hr W
  have H : Aside ((∀ i,l i < 256) ∧ (∀ i,r i < 256) ∧ Tabled w) := ⟨hl,hr,hT⟩
  obtain ⟨W,zb,lb,rb,hW,hzb,hlb,hrb,R,h4,h5⟩ : ∃ W zb lb rb,W = ((w.alloc (.cells (UARR .u8 32 l) 24)).alloc (.cells (UARR .u8 32 r) 24)).alloc (.cells (UARR .u8 32 fun _ => 0) 24) ∧ zb = w.heap.size + 1 + 1 ∧ lb = w.heap.size ∧ rb = w.heap.size + 1 ∧ Aside (Has W zb (UARR .u8 32 fun _ => 0) 24 ∧ Below w.heap.size w W ∧ w.heap.size ≤ zb) ∧ W.rangeAt lb 0 (ULIST .u8 32 l) ∧ W.rangeAt rb 0 (ULIST .u8 32 r) := by
    refine ⟨_,_,_,_,rfl,rfl,rfl,rfl,⟨Has.at _ _ _ (by simp),(((Below.refl _ _).alloc (Nat.le_refl _) _).alloc (by simp) _).alloc (by simp; omega) _,by omega⟩,(((Has.new w _ _).alloc _).alloc _).whole,((Has.at _ _ _ (by simp)).alloc _).whole⟩
  clear hl hr hT
  go_enter Tryd.func47,Tryd.ntmps47
  go_wp2_with (first
    | (rw [← hW]; refine wpList_load_mid rfl 24 (.tmp 4) rfl w.heap.size 0 rfl (ULIST .u8 32 l) (.array 32 5) (by rw [← hlb]; exact h4) Tryd.underlying24 rfl (by rw [ULIST_length]; exact info_hash) ?_; rw [← UARR_list])
    | (refine wpList_load_mid rfl 24 (.tmp 5) rfl (w.heap.size + 1) 0 rfl (ULIST .u8 32 r) (.array 32 5) (by rw [← hrb]; exact h5) Tryd.underlying24 rfl (by rw [ULIST_length]; exact info_hash) ?_; rw [← UARR_list]))
  rw [← hzb]
  refine (ct _).mono ?_
  rintro e w2 ⟨a',c',rfl,hown,hb⟩
  rw [← hW] at hown hb
  clear ct h4 h5 hW hzb hlb hrb
  have S : Aside (Has w2 zb (UARR .u8 32 fun _ => 0) 24 ∧ Below w.heap.size w w2) := ⟨R.out.1.keep hb,R.out.2.1.trans (hb.mono R.out.2.1.size)⟩
  have cs := lone_sum d hown (small_cons' (by decide) (small_app' (small_map' H.out.1) (small_map' H.out.2.1))) (by simp) (H.out.2.2.below S.out.2)
  have Z : Aside (w.heap.size ≤ zb) := R.out.2.2
  clear hown hb R
  go_wp2_with fail
  refine cs.mono ?_
  rintro e w3 ⟨rfl,hb3⟩
  have hb4 : Below w2.heap.size w2 w3 := ((Below.refl _ _).alloc (Nat.le_refl _) _).trans (hb3.mono (by simp))
  have S2 : Aside (Has w3 zb (UARR .u8 32 fun _ => 0) 24 ∧ Below w.heap.size w w3) := ⟨S.out.1.keep hb4,S.out.2.trans (hb4.mono S.out.2.size)⟩
  clear cs hb3 hb4 S
  go_wp2_with (first
    | (refine wpList_store_row rfl 24 _ _ rfl _ _ rfl rfl _ _ S2.out.1 (info_HASH _) (by rw [UARR_size,UARR_size]) (UARR_one _ _ _) ?_))
  refine bodyPost_ret (v := .agg (UARR .u8 32 (HASHOF d (1 :: ((List.range 32).map l ++ (List.range 32).map r))))) ?_ rfl ⟨rfl,below_row S2.out.2 Z.out _⟩
  exact results_cell_row rfl _ _ zb 24 _ (0,0) _ rfl (S2.out.1.row _) Tryd.underlying24 rfl (info_HASH _)
end Go.Proofs.YtkpgbhokoohimaaDoor.HX

/- The hashes of two hashes, of a root, as lists of bytes. -/
namespace Go.Proofs.YtkpgbhokoohimaaDoor
open Go.RowKit
set_option maxRecDepth 100000

/-- a hash by a function, as a list. -/
def LST (f : Nat → Nat) : List Int := (List.range 32).map fun i => ((f i : Nat) : Int)
/-- a list, by a function. -/
def FNC (h : List Int) (i : Nat) : Nat := (h.getD i 0).toNat
/-- is this a hash? -/
def IsH (h : List Int) : Prop := h.length = 32 ∧ ∀ x ∈ h,0 ≤ x ∧ x ≤ 255
theorem LST_length (f : Nat → Nat) : (LST f).length = 32 := by simp [LST]
theorem LST_is {f : Nat → Nat} (h : ∀ i,f i < 256) : IsH (LST f) := ⟨LST_length f,fun x hx => by
  obtain ⟨i,_,rfl⟩ := List.mem_map.1 hx
  have := h i
  omega⟩
theorem uarr_cells (f : Nat → Nat) : HX.UARR .u8 32 f = (CELLS (LST f)).toArray := by
  unfold HX.UARR CELLS LST
  rw [List.map_map]
  rfl
theorem LST_FNC {h : List Int} (hh : IsH h) : LST (FNC h) = h := by
  apply List.ext_getElem (by rw [LST_length,hh.1])
  intro i h1 h2
  simp only [LST,List.getElem_map,List.getElem_range,FNC]
  have := hh.2 h[i] (List.getElem_mem h2)
  rw [List.getD_eq_getElem?_getD,List.getElem?_eq_getElem h2,Option.getD_some]
  omega
theorem cells_uarr {h : List Int} (hh : IsH h) : (CELLS h).toArray = HX.UARR .u8 32 (FNC h) := by rw [uarr_cells,LST_FNC hh]
theorem FNC_lt {h : List Int} (hh : IsH h) (i : Nat) : FNC h i < 256 := by
  unfold FNC
  by_cases hi : i < h.length
  · rw [List.getD_eq_getElem?_getD,List.getElem?_eq_getElem hi,Option.getD_some]
    have := hh.2 h[i] (List.getElem_mem hi)
    omega
  · rw [List.getD_eq_getElem?_getD,List.getElem?_eq_none (by omega)]
    decide
/-- the bytes of a hash. -/
def NATS (h : List Int) : List Nat := (List.range 32).map (FNC h)
def NODEH (d : Int) (l r : List Int) : List Int := LST (HX.HASHOF d (1 :: (NATS l ++ NATS r)))
theorem NODEH_is (d : Int) (l r : List Int) : IsH (NODEH d l r) := LST_is fun i => HX.STATE_lt d _ _ i
theorem nodeh_ok (d : Int) (l r : List Int) (hl : IsH l) (hr : IsH r) (w : World) (hT : HX.Tabled w) : Calls Tryd.prog 47 #[.int .i64 d,.agg (CELLS l).toArray,.agg (CELLS r).toArray] w fun e w' => e = .returned (.agg (CELLS (NODEH d l r)).toArray) ∧ Below w.heap.size w w' := by
  rw [cells_uarr hl,cells_uarr hr]
  refine (HX.node_ok d (FNC l) (FNC r) (FNC_lt hl) (FNC_lt hr) w hT).mono ?_
  rintro e w' ⟨rfl,hb⟩
  exact ⟨by rw [uarr_cells]; rfl,hb⟩
end Go.Proofs.YtkpgbhokoohimaaDoor

/- What handed and join of package verify do. -/
namespace Go.Proofs.YtkpgbhokoohimaaDoor
open Go.RowKit
set_option maxRecDepth 100000

/-- the first i nodes, at their spots. -/
def HAND (ss : List (Nat × Nat)) (l : List Int) : Nat → Nat → Nat → List Int
  | 0 => fun _ _ => ZND
  | i + 1 => MPUT (HAND ss l i) (ss.getD i (0,0)).1 (ss.getD i (0,0)).2 (HSH l i)
theorem handed_not (v : Value) (N : Nat) (hv : ∃ a' c',v = .slice a' N c') (a : Option Addr) (n c : Nat) (hn : n ≠ N) (w : World) : Calls Tryd.prog 50 #[v,.slice a n c] w fun e w' => e = .returned (.tuple #[.map none,.int .i64 70]) ∧ w = w' := by
  obtain ⟨a',c',rfl⟩ := hv
  have h1 : ¬ (n : Int) = (N : Int) := by omega
  clear hn
  go_enter Tryd.func50,Tryd.ntmps50
  go_wp2
  go_ret2
  exact ⟨rfl,rfl⟩
/-- what a map is made of. -/
def MADEM (w : World) (n : Nat) (M : Nat → Nat → List Int) (e : Ending) (w' : World) : Prop := ∃ b,e = .returned (.tuple #[.map (some b),.int .i64 0]) ∧ SMAP w' b n M ∧ w.heap.size ≤ b ∧ Below w.heap.size w w'
theorem range_keep {w w' : World} {g o : Nat} {cs : List Value} (h : w.rangeAt g o cs) (hb : w'.heap[g]? = w.heap[g]?) : w'.rangeAt g o cs := fun j v hv => (World.cell?_of_block (a := ⟨g,o + j,none⟩) hb).trans (h j v hv)
theorem has_range {w : World} {g : Nat} {l : List Int} {t : TypeId} (h : Has w g (CELLS l).toArray t) : w.rangeAt g 0 (CELLS l) := fun j v hv => by rw [Nat.zero_add,h.cell,List.getElem?_toArray]; exact hv
set_option maxHeartbeats 2000000 in
theorem handed_ok (ss : List (Nat × Nat)) (hN : ∀ s ∈ ss,Node s.1 s.2) (B n : Nat) (hss : ss.length = n) (hn : n ≤ 1000) (v : Value) (a : Option Addr) (c : Nat) (l : List Int) (w : World) (hv : w.ownsRow B 22 1 v n (UCELLS (PLCS ss))) (hF : Flat w a n l) :
    Calls Tryd.prog 50 #[v,.slice a n c] w (MADEM w n (HAND ss l n)) := by
  obtain ⟨ap,cp,rfl,hap⟩ := own_slice hv
  have HA : Aside ((∀ s ∈ ss,Node s.1 s.2) ∧ ss.length = n ∧ n ≤ 1000 ∧ Flat w a n l ∧ (0 < n → ∃ g,ap = some ⟨g,0,none⟩ ∧ g < w.heap.size) ∧ w.ownsRow B 22 1 (.slice ap n cp) n (UCELLS (PLCS ss))) := ⟨hN,hss,hn,hF,fun h => by obtain ⟨g,e,h1,_⟩ := hap h; exact ⟨g,e,h1⟩,hv⟩
  have M0 : Aside (SMAP (w.alloc (.map #[] 0)) w.heap.size 0 (HAND ss l 0) ∧ Below w.heap.size w (w.alloc (.map #[] 0))) := ⟨SMAP.made w,(Below.refl _ _).alloc (Nat.le_refl _) _⟩
  have hmk : (Instr.makeMap 87 none).run Tryd.prog w = .ok (.map (some w.heap.size)) (w.alloc (.map #[] 0)) := rfl
  clear hN hss hn hF hap hv
  go_enter Tryd.func50,Tryd.ntmps50
  go_wp2_with fail
  go_loopg [19] n (fun q s19 wx => ∃ i : Nat,s19 = .int .i64 (i : Int) ∧ Aside (i + q = n ∧ Below w.heap.size w wx ∧ SMAP wx w.heap.size i (HAND ss l i)))
  case atStart => exact ⟨0,rfl,by omega,M0.out.2,M0.out.1⟩
  case round =>
    obtain ⟨i,rfl,A⟩ := hrel
    clear M0
    cases gk with
    | zero =>
      obtain rfl : i = n := by have := A.out.1; omega
      have hlt : ¬ (i : Int) < (i : Int) := by omega
      have R : Aside (SMAP wr w.heap.size i (HAND ss l i) ∧ Below w.heap.size w wr) := ⟨A.out.2.2,A.out.2.1⟩
      clear A HA
      go_wp2
      go_ret2
      exact ⟨_,rfl,R.out.1,Nat.le_refl _,R.out.2⟩
    | succ q =>
      obtain ⟨a1,a2,a3⟩ := A.out
      obtain ⟨h1,h2,h3,h4,h5,h6⟩ := HA.out
      have hlt : (i : Int) < (n : Int) := by omega
      obtain ⟨gp,rfl,hgp⟩ := h5 (by omega)
      obtain ⟨gn,o,rfl,hgn,hcn⟩ := h4.2.1 (by omega)
      obtain ⟨⟨h,k⟩,hs⟩ : ∃ s,ss[i]? = some s := ⟨_,List.getElem?_eq_getElem (by omega)⟩
      have hNd : Node h k := h1 (h,k) (List.mem_of_getElem? hs)
      have hcp : wr.cell? ⟨gp,i,none⟩ = some (.int .u64 ((PLC h k : Nat) : Int)) := by
        refine (a2.cell (p := ⟨gp,i,none⟩) hgp).trans ?_
        rw [h6.cellAt i (by omega)]
        simp [UCELLS,PLCS,hs]
      have hat := (h4.below a2).at (show i < n by omega)
      have h32 := HSH_length h4.1 (show i < n by omega)
      have hnx : HAND ss l (i + 1) = MPUT (HAND ss l i) h k (HSH l i) := by rw [HAND,List.getD_eq_getElem?_getD,hs]; rfl
      have R : Aside (i + 1 + q = n ∧ Below w.heap.size w wr ∧ SMAP wr w.heap.size i (HAND ss l i) ∧ gn < w.heap.size ∧ Node h k ∧ HAND ss l (i + 1) = MPUT (HAND ss l i) h k (HSH l i) ∧ n ≤ 1000 ∧ wr.rangeAt gn (o + i * 32) (CELLS (HSH l i))) := ⟨by omega,a2,a3,hgn,hNd,hnx,h3,hat⟩
      have cS := spot_ok h k hNd wr
      have E1 : Aside (wrap64 ((i : Int) + 1) = ((i + 1 : Nat) : Int)) := by show wrap64 ((i : Int) + 1) = ((i + 1 : Nat) : Int); unfold wrap64; omega
      clear a1 a2 a3 h1 h2 h3 h4 h5 h6 hgp hgn hcn hs hNd hat hnx A HA
      generalize PLC h k = pl at *
      go_wp2_with fail
      refine cS.mono ?_
      rintro e w1 ⟨rfl,hb1⟩
      clear cS hcp
      have hbx : Below w1.heap.size w1 (w1.alloc (.cells #[.int .u8 (h : Int),.int .u64 (k : Int)] 63)) := (Below.refl _ _).alloc (Nat.le_refl _) _
      obtain ⟨b9,hb9⟩ : ∃ b9,b9 = w1.heap.size := ⟨_,rfl⟩
      have R2 : Aside (Below w.heap.size w (w1.alloc (.cells #[.int .u8 (h : Int),.int .u64 (k : Int)] 63)) ∧ SMAP (w1.alloc (.cells #[.int .u8 (h : Int),.int .u64 (k : Int)] 63)) w.heap.size i (HAND ss l i) ∧ Has (w1.alloc (.cells #[.int .u8 (h : Int),.int .u64 (k : Int)] 63)) b9 #[.int .u8 (h : Int),.int .u64 (k : Int)] 63 ∧ (w1.alloc (.cells #[.int .u8 (h : Int),.int .u64 (k : Int)] 63)).rangeAt gn (o + i * 32) (CELLS (HSH l i)) ∧ w.heap.size < b9) := by
        obtain ⟨r1,r2,r3,r4,r5,r6,r7,r8⟩ := R.out
        have t1 := r2.trans (hb1.mono r2.size)
        refine ⟨t1.trans (hbx.mono t1.size),(r3.below hb1).below hbx,by rw [hb9]; exact Has.new _ _ _, ?_, ?_⟩
        · exact range_keep (range_keep r8 (hb1.block gn (by have := r2.size; omega))) (hbx.block gn (by have := t1.size; omega))
        · rw [hb9]
          exact (r3.below hb1).lt
      go_upto_region 8 with fail
      rw [← hb9]
      clear hb1 hbx hb9
      generalize w1.alloc (.cells #[.int .u8 (h : Int),.int .u64 (k : Int)] 63) = w2 at *
      refine handed_region _ _ _ _ _ _ _ _ _ _ _ _ _ _ _ _ _ _ _ _ _ _ _ _ _ _ _ _ _ _ _ _ _ _ w.heap.size b9 gn o n c i h k (HSH l i) h32 hlt (fun W => Below w.heap.size w W ∧ SMAP W w.heap.size i (HAND ss l i) ∧ Has W b9 #[.int .u8 (h : Int),.int .u64 (k : Int)] 63 ∧ W.rangeAt gn (o + i * 32) (CELLS (HSH l i))) (fun W => Below w.heap.size w W ∧ SMAP W w.heap.size (i + 1) (HAND ss l (i + 1)) ∧ Has W b9 #[.int .u8 (h : Int),.int .u64 (k : Int)] 63 ∧ W.rangeAt gn (o + i * 32) (CELLS (HSH l i)))
        (fun W ⟨_,_,p,q⟩ => ⟨p.cell 0,p.cell 1,q⟩) (fun W ⟨_,_,p,q⟩ => ⟨p.cell 0,p.cell 1,q⟩) ?_ ⟨R2.out.1.drew,R2.out.2.1.at rfl,R2.out.2.2.1,range_keep R2.out.2.2.2.1 rfl⟩ (fun _ _ _ _ _ h => h) ?_
      · rintro W ⟨p1,p2,p3,p4⟩
        obtain ⟨r1,r2,r3,r4,r5,r6,r7,r8⟩ := R.out
        obtain ⟨w',q1,q2,q3⟩ := p2.store (h := h) (k := k) (by omega) (by have := r5.1; omega) (by have := r5.index_lt; omega) (HSH l i)
        have hb9' := R2.out.2.2.2.2
        refine ⟨w',q1,p1.grown q3 p1.size (fun k e => by cases e; exact Nat.le_refl _),by rw [r6]; exact q2,(q3.block b9 p3.lt (by simp; omega)).trans p3,range_keep p4 (q3.block gn (by have := p1.size; omega) (by simp; omega))⟩
      · rintro W ⟨p1,p2,p3,p4⟩
        have Z : Aside (i + 1 + q = n ∧ Below w.heap.size w W ∧ SMAP W w.heap.size (i + 1) (HAND ss l (i + 1))) := ⟨R.out.1,p1,p2⟩
        clear p1 p2 p3 p4 R R2 h32
        have e1 := E1.out
        go_wp2
        go_roundg q
        case measure => exact Nat.lt_succ_self _
        case rel => exact ⟨i + 1,by first | rfl | (rw [E1.out]),Z.out⟩
set_option maxHeartbeats 2000000 in
theorem join_ok (mb n h h1 k : Nat) (d : Int) (M : Nat → Nat → List Int) (hh : h = h1 + 1) (hh2 : h < 200) (hk : 2 * k + 1 < 2 ^ 64) (hn : n ≤ 10000) (w : World) (hM : SMAP w mb n M) (hL : IsH (M h1 (2 * k))) (hR : IsH (M h1 (2 * k + 1))) (hT : HX.Tabled w) (hmb : 2 < mb) :
    Calls Tryd.prog 52 #[.map (some mb),.int .i64 d,.agg #[.int .u8 (h : Int),.int .u64 (k : Int)]] w fun e w' => e = .returned (.tuple #[]) ∧ SMAP w' mb (n + 1) (MPUT M h k (NODEH d (M h1 (2 * k)) (M h1 (2 * k + 1)))) ∧ w.grownBy w' (some mb) := by
  obtain ⟨L,hLe⟩ : ∃ L,M h1 (2 * k) = L := ⟨_,rfl⟩
  obtain ⟨R,hRe⟩ : ∃ R,M h1 (2 * k + 1) = R := ⟨_,rfl⟩
  rw [hLe] at hL ⊢
  rw [hRe] at hR ⊢
  obtain ⟨k2,hk2⟩ : ∃ k2,2 * k = k2 := ⟨_,rfl⟩
  obtain ⟨k3,hk3⟩ : ∃ k3,k2 + 1 = k3 := ⟨_,rfl⟩
  have e1 : IntKind.u8.wrap ((h : Int) - 1) = (h1 : Int) := by simp [IntKind.wrap,IntKind.bits,IntKind.signed]; omega
  have e2 : IntKind.u64.wrap (2 * (k : Int)) = (k2 : Int) := by rw [wrapU]; omega
  have e3 : IntKind.u64.wrap ((k2 : Int) + 1) = (k3 : Int) := by rw [wrapU]; omega
  have HA : Aside (h < 200 ∧ h1 < 200 ∧ (k2 < 2 ^ 64 ∧ k3 < 2 ^ 64) ∧ k < 2 ^ 64 ∧ n ≤ 10000 ∧ SMAP w mb n M ∧ M h1 k2 = L ∧ M h1 k3 = R ∧ IsH L ∧ IsH R ∧ HX.Tabled w ∧ 2 < mb) := ⟨hh2,by omega,by omega,by omega,hn,hM,by rw [← hk2]; exact hLe,by rw [← hk3, ← hk2]; exact hRe,hL,hR,hT,hmb⟩
  have l32 : L.length = 32 := hL.1
  have r32 : R.length = 32 := hR.1
  have LK : Aside (∀ W,Below w.heap.size w W → (Instr.lookup 87 (.map (some mb)) (.agg #[.int .u8 (h1 : Int),.int .u64 (k2 : Int)]) false).run Tryd.prog W = .ok (.agg (CELLS L).toArray) W ∧ (Instr.lookup 87 (.map (some mb)) (.agg #[.int .u8 (h1 : Int),.int .u64 (k3 : Int)]) false).run Tryd.prog W = .ok (.agg (CELLS R).toArray) W) := fun W hb => by
    have h1' := (HA.out.2.2.2.2.2.1.below hb).look (h := h1) (k := k2) (by have := HA.out; omega) (by have := HA.out; omega)
    have h2' := (HA.out.2.2.2.2.2.1.below hb).look (h := h1) (k := k3) (by have := HA.out; omega) (by have := HA.out; omega)
    rw [HA.out.2.2.2.2.2.2.1] at h1'
    rw [HA.out.2.2.2.2.2.2.2.1] at h2'
    exact ⟨h1',h2'⟩
  clear hh hh2 hk hn hM hLe hRe hk2 hk3 hL hR hT hmb
  go_enter Tryd.func52,Tryd.ntmps52
  go_upto_region 1 with fail
  obtain ⟨b5,hb5⟩ : ∃ b5,b5 = w.heap.size := ⟨_,rfl⟩
  have R1 : Aside (Below w.heap.size w (w.alloc (.cells #[.int .u8 (h : Int),.int .u64 (k : Int)] 63)) ∧ Has (w.alloc (.cells #[.int .u8 (h : Int),.int .u64 (k : Int)] 63)) b5 #[.int .u8 (h : Int),.int .u64 (k : Int)] 63 ∧ w.heap.size ≤ b5) := ⟨(Below.refl _ _).alloc (Nat.le_refl _) _,by rw [hb5]; exact Has.new _ _ _,by rw [hb5]; exact Nat.le_refl _⟩
  rw [← hb5]
  clear hb5
  generalize w.alloc (.cells #[.int .u8 (h : Int),.int .u64 (k : Int)] 63) = W1 at *
  have lk1 := (LK.out _ R1.out.1).1
  have hz0 : W1.cell? ⟨b5,0,none⟩ = some (.int .u8 (h : Int)) := R1.out.2.1.cell 0
  have hz1 : W1.cell? ⟨b5,1,none⟩ = some (.int .u64 (k : Int)) := R1.out.2.1.cell 1
  go_upto_region 2 with (refine wpList_store_row rfl 24 (.tmp 6) (.tmp 16) rfl _ _ rfl rfl 24 _ (Has.new W1 _ _) (info_arr l32) (by simp [CELLS,l32]) (cells_one L) ?_; rw [World.setRow_alloc_new])
  obtain ⟨b6,hb6⟩ : ∃ b6,b6 = W1.heap.size := ⟨_,rfl⟩
  have R2 : Aside (Below w.heap.size w (W1.alloc (.cells (CELLS L).toArray 24)) ∧ Has (W1.alloc (.cells (CELLS L).toArray 24)) b5 #[.int .u8 (h : Int),.int .u64 (k : Int)] 63 ∧ w.heap.size ≤ b5 ∧ Has (W1.alloc (.cells (CELLS L).toArray 24)) b6 (CELLS L).toArray 24 ∧ w.heap.size ≤ b6) := ⟨R1.out.1.alloc R1.out.1.size _,R1.out.2.1.alloc _,R1.out.2.2,by rw [hb6]; exact Has.new _ _ _,by rw [hb6]; exact R1.out.1.size⟩
  rw [← hb6]
  clear hb6 lk1 hz0 hz1 R1
  generalize W1.alloc (.cells (CELLS L).toArray 24) = W2 at *
  have lk2 := (LK.out _ R2.out.1).2
  have hz0 : W2.cell? ⟨b5,0,none⟩ = some (.int .u8 (h : Int)) := R2.out.2.1.cell 0
  have hz1 : W2.cell? ⟨b5,1,none⟩ = some (.int .u64 (k : Int)) := R2.out.2.1.cell 1
  go_upto_region 3 with (refine wpList_store_row rfl 24 (.tmp 7) (.tmp 26) rfl _ _ rfl rfl 24 _ (Has.new W2 _ _) (info_arr r32) (by simp [CELLS,r32]) (cells_one R) ?_; rw [World.setRow_alloc_new])
  obtain ⟨b7,hb7⟩ : ∃ b7,b7 = W2.heap.size := ⟨_,rfl⟩
  have R3 : Aside (Below w.heap.size w (W2.alloc (.cells (CELLS R).toArray 24)) ∧ Has (W2.alloc (.cells (CELLS R).toArray 24)) b5 #[.int .u8 (h : Int),.int .u64 (k : Int)] 63 ∧ w.heap.size ≤ b5 ∧ Has (W2.alloc (.cells (CELLS R).toArray 24)) b6 (CELLS L).toArray 24 ∧ w.heap.size ≤ b6 ∧ Has (W2.alloc (.cells (CELLS R).toArray 24)) b7 (CELLS R).toArray 24 ∧ w.heap.size ≤ b7) := ⟨R2.out.1.alloc R2.out.1.size _,R2.out.2.1.alloc _,R2.out.2.2.1,R2.out.2.2.2.1.alloc _,R2.out.2.2.2.2,by rw [hb7]; exact Has.new _ _ _,by rw [hb7]; exact R2.out.1.size⟩
  rw [← hb7]
  clear hb7 lk2 hz0 hz1 R2
  generalize W2.alloc (.cells (CELLS R).toArray 24) = W3 at *
  refine join_region _ _ _ _ _ _ _ _ _ _ _ _ _ _ _ _ _ _ _ _ _ _ _ _ _ _ _ _ _ mb b5 b6 b7 h k d L R l32 r32 (fun W => Below w.heap.size w W ∧ Has W b5 #[.int .u8 (h : Int),.int .u64 (k : Int)] 63 ∧ Has W b6 (CELLS L).toArray 24 ∧ Has W b7 (CELLS R).toArray 24) (fun X W => X = .agg (CELLS (NODEH d L R)).toArray ∧ Below w.heap.size w W ∧ Has W b5 #[.int .u8 (h : Int),.int .u64 (k : Int)] 63 ∧ Has W b6 (CELLS L).toArray 24 ∧ Has W b7 (CELLS R).toArray 24) (fun _ W => SMAP W mb (n + 1) (MPUT M h k (NODEH d L R)) ∧ w.grownBy W (some mb) ∧ Has W b5 #[.int .u8 (h : Int),.int .u64 (k : Int)] 63 ∧ Has W b6 (CELLS L).toArray 24 ∧ Has W b7 (CELLS R).toArray 24)
    (fun W ⟨_,p,q,r⟩ => ⟨p.cell 0,p.cell 1,has_range q,has_range r⟩) (fun X W ⟨_,_,p,q,r⟩ => ⟨p.cell 0,p.cell 1,has_range q,has_range r⟩) (fun X W ⟨_,_,p,q,r⟩ => ⟨p.cell 0,p.cell 1,has_range q,has_range r⟩) ?_ ?_ ⟨R3.out.1.drew,R3.out.2.1,R3.out.2.2.2.1,R3.out.2.2.2.2.2.1⟩ (fun _ _ _ _ _ h => h) ?_
  · rintro W ⟨p1,p2,p3,p4⟩
    obtain ⟨a1,a2,a3,a4,a5,a6,a7,a8,a9,a10,a11,a12⟩ := HA.out
    refine (nodeh_ok d L R a9 a10 W (a11.below p1)).mono ?_
    rintro e w' ⟨rfl,hb⟩
    exact ⟨_,rfl,rfl,p1.trans (hb.mono p1.size),p2.keep hb,p3.keep hb,p4.keep hb⟩
  · rintro X W ⟨rfl,p1,p2,p3,p4⟩
    obtain ⟨a1,a2,a3,a4,a5,a6,a7,a8,a9,a10,a11,a12⟩ := HA.out
    have hml := a6.lt
    have r := R3.out
    obtain ⟨w',q1,q2,q3⟩ := (a6.below p1).store (h := h) (k := k) (by omega) (by omega) a4 (NODEH d L R)
    refine ⟨w',q1,q2,⟨q3.os.trans p1.os,q3.tape.trans p1.tape,q3.output.trans p1.output,Nat.le_trans p1.size q3.size,fun j hj hne => (q3.block j (by have := p1.size; omega) hne).trans (p1.block j hj)⟩,(q3.block b5 p2.lt (by simp; omega)).trans p2,(q3.block b6 p3.lt (by simp; omega)).trans p3,(q3.block b7 p4.lt (by simp; omega)).trans p4⟩
  · rintro X W ⟨p1,p2,p3,p4,p5⟩
    have Z : Aside (SMAP W mb (n + 1) (MPUT M h k (NODEH d L R)) ∧ w.grownBy W (some mb)) := ⟨p1,p2⟩
    clear p1 p2 p3 p4 p5 R3 LK HA
    go_wp2
    exact bodyPost_end (v := .tuple #[]) (by simp [results,Tryd.f52]) rfl ⟨rfl,Z.out⟩
end Go.Proofs.YtkpgbhokoohimaaDoor
