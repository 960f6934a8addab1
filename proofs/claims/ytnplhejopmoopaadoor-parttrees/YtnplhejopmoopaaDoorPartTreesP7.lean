/- Texts of PartTrees, one behind the other: HashText, HashPairTexts, HashRootText, HashEq, HashSumPlain, MmrPlain, NumCalls, NumBitCalls. -/
import Derived.ChangeKeysEq
import Derived.Deep.RegionHeldLaw
import Derived.Deep.RegionHeld3
import Derived.Test.YtnplhejopmoopaaDoorProg
import Derived.WalkKit
import Derived.WalkLawsBesides
import Derived.Test.YtnplhejopmoopaaDoorPartTreesP6
/- What text of package hash answers. -/
namespace Go.Proofs.YtnplhejopmoopaaDoor.HX
open Go.RowKit
set_option maxRecDepth 100000

theorem make_room (q : Nat) (hq : q ≤ 1000000) (w : World) : (Instr.makeSlice 104 (.int .i64 0) (.int .i64 (q : Int))).run Tryd.prog w = .ok (.slice (some ⟨w.heap.size, 0, none⟩) 0 q) (w.alloc (.cells (BARR q fun _ => 0) 5)) := by
  obtain ⟨i8, hi, h8⟩ := Option.map_eq_some_iff.1 info_u8
  simp only [Prod.mk.injEq] at h8
  have h := run_make (P := Tryd.prog) w 104 5 i8 (.int .u8 0) Tryd.underlying104 hi h8.1 .i64 .i64 0 (q : Int) (by omega) (by omega) (by rw [h8.2.2]; omega) (by omega)
  rw [h8.2.1] at h
  have e : madeCells (Value.int .u8 0).cells (((q : Int).toNat) * 1) = BARR q fun _ => 0 := by
    rw [Int.toNat_natCast, Nat.mul_one]
    exact BARR_made q
  rw [e] at h
  exact h
theorem owns_room (w : World) (q : Nat) (hq : q ≤ 1000000) : (w.alloc (.cells (BARR q fun _ => 0) 5)).ownsRow w.heap.size 5 1 (.slice (some ⟨w.heap.size, 0, none⟩) 0 q) 0 (CELLS (INTS [])) :=
  ⟨by simp [CELLS, INTS], Or.inr ⟨w.heap.size, q, BARR q fun _ => 0, rfl, Nat.le_refl _, Has.new w _ _, Nat.zero_le _, by simp only [maxLen]; omega, by rw [BARR_size]; omega, by simp [CELLS, INTS]⟩⟩
theorem Parts.at {w : World} {a : Option Addr} {k : Nat} {ps : List PART} (h : Parts w a k ps) {i : Nat} (hi : i < k) : ∃ b off p, a = some ⟨b, off, none⟩ ∧ b < w.heap.size ∧ ps[i]? = some p ∧ w.cell? ⟨b, off + i, none⟩ = some (.slice p.a p.n p.c) ∧ Text w p.a p.n p.l ∧ ps.take (i + 1) = ps.take i ++ [p] ∧ p ∈ ps := by
  obtain ⟨b, off, e, hl, hc⟩ := h.2.1 (by omega)
  have hp : ps[i]? = some (ps[i]'(by have := h.1; omega)) := List.getElem?_eq_getElem _
  exact ⟨b, off, _, e, hl, hp, hc i _ hp, (h.2.2 _ (List.mem_of_getElem? hp)).1, by rw [List.take_add_one, hp, Option.toList_some], List.mem_of_getElem? hp⟩

set_option maxHeartbeats 1000000 in
theorem text_ok (o : Nat) (ho : o < 256) (a : Option Addr) (k c : Nat) (ps : List PART) (w : World) (hP : Parts w a k ps) (hnone : ∀ p ∈ ps, p.a = none → p.c = 0) (hlen : (JOIN ps).length < 5000) (hkk : k < 2 ^ 40) : Calls Tryd.prog 68 #[.int .u8 (o : Int), .slice a k c] w fun e w' =>
    ∃ a' c', e = .returned (.slice a' ((JOIN ps).length + 1) c') ∧ w'.ownsRow w.heap.size 5 1 (.slice a' ((JOIN ps).length + 1) c') ((JOIN ps).length + 1) (CELLS (INTS (o :: JOIN ps))) ∧ Below w.heap.size w w' := by
  have H : Aside (Parts w a k ps ∧ (JOIN ps).length < 5000 ∧ k < 2 ^ 40 ∧ (∀ p ∈ ps, p.a = none → p.c = 0) ∧ o < 256) := ⟨hP, hlen, hkk, hnone, ho⟩
  clear hP hlen hkk hnone ho
  go_enter Tryd.func68, Tryd.ntmps68
  go_wp2_with fail
  go_loopg [5, 13] k (fun r s5 s13 wx => ∃ i L : Nat, i + r = k ∧ s13 = .int .i64 i ∧ s5 = .int .i64 L ∧ w = wx ∧ Aside (L = (JOIN (ps.take i)).length + 1))
  case atStart => exact ⟨0, 1, by omega, rfl, rfl, rfl, rfl⟩
  case round =>
    obtain ⟨i, L, hir, rfl, rfl, rfl, A⟩ := hrel
    have hk : ps.length = k := H.out.1.1
    cases gk with
    | zero =>
      obtain rfl : i = k := by omega
      rw [List.take_of_length_le (by omega)] at A
      have hL : L ≤ 1000000 := by have := A.out; have := H.out.2.1; omega
      have hmk := make_room L hL
      have hO : Aside ((w.alloc (.cells (BARR L fun _ => 0) 5)).ownsRow w.heap.size 5 1 (.slice (some ⟨w.heap.size, 0, none⟩) 0 L) 0 (CELLS (INTS []))) := owns_room w L hL
      have HM : Aside (Bytes ((w.alloc (.cells (BARR L fun _ => 0) 5)).alloc (.cells #[.int .u8 (o : Int)] 5)) (some ⟨w.heap.size + 1, 0, none⟩) 1 [(o : Int)]) := by
        have h := row_bytes (w.alloc (.cells (BARR L fun _ => 0) 5)) 1 (fun _ => (o : Int)) [(o : Int)] rfl (fun i hi => by obtain rfl : i = 0 := (by omega); rfl) (fun x hx => by simp at hx; have := H.out.2.2.2.2; omega)
        have e : (w.alloc (.cells (BARR L fun _ => 0) 5)).heap.size = w.heap.size + 1 := by simp
        rw [e] at h
        exact h
      have HB : Aside (Below w.heap.size w ((w.alloc (.cells (BARR L fun _ => 0) 5)).alloc (.cells #[.int .u8 (o : Int)] 5))) := ((Below.refl _ _).alloc (Nat.le_refl _) _).alloc (by simp) _
      clear hL hk hir
      go_wp2_with (at_builtin; refine app_u8 _ rfl (.tmp 23) (.tmp 25) rfl w.heap.size (.slice (some ⟨w.heap.size, 0, none⟩) 0 L) 0 (INTS []) rfl (hO.out.alloc _) (w.heap.size + 1) 0 1 1 [(o : Int)] rfl HM.out (by decide) (by decide) (by simp; omega) ?_; intro g8 cap8 w8 hown8 hgrow8 hg8)
      have S : Aside (w8.ownsRow w.heap.size 5 1 (.slice (some ⟨g8, 0, none⟩) (0 + 1) cap8) (0 + 1) (CELLS (INTS (o :: JOIN (ps.take 0)))) ∧ Below w.heap.size w w8) := ⟨hown8, HB.out.grown hgrow8 (by simp; omega) (fun k e => by simp [Value.ownBlock] at e; omega)⟩
      clear hown8 hgrow8 hg8 HB HM hO hmk A
      go_loopg [8, 29] i (fun r s8 s29 wx => ∃ (j N : Nat) (a8 : Option Addr) (c8 : Nat), j + r = i ∧ s29 = .int .i64 j ∧ s8 = .slice a8 N c8 ∧ Aside (N = (JOIN (ps.take j)).length + 1 ∧ wx.ownsRow w.heap.size 5 1 (.slice a8 N c8) N (CELLS (INTS (o :: JOIN (ps.take j)))) ∧ Below w.heap.size w wx))
      case atStart => exact ⟨0, 0 + 1, _, _, by omega, rfl, rfl, rfl, S.out.1, S.out.2⟩
      case round =>
        obtain ⟨j, N, a8, c8, hjr, rfl, rfl, A⟩ := hrel
        have hk : ps.length = i := H.out.1.1
        cases gk with
        | zero =>
          obtain rfl : j = i := by omega
          rw [List.take_of_length_le (by omega)] at A
          clear hk
          go_wp2
          go_ret
          obtain ⟨e1, e2, e3⟩ := A.out
          subst e1
          exact ⟨a8, c8, rfl, e2, e3⟩
        | succ r =>
          obtain ⟨pb, po, p, rfl, hpb, hpi, hc, ht, htk, hpm⟩ := H.out.1.at (i := j) (by omega)
          have hlt : (j : Int) < (i : Int) := by omega
          have hl1 := JOIN_take_length ps (j + 1)
          rw [htk, JOIN_snoc, List.length_append, ht.1] at hl1
          have hcr := (A.out.2.2.cell (p := ⟨pb, po + j, none⟩) (by exact hpb)).trans hc
          have S2 : Aside (N + p.n = (JOIN (ps.take (j + 1))).length + 1 ∧ j + (r + 1) = i ∧ N + p.n ≤ 140737488355328 ∧ Bytes wr p.a p.n (INTS p.l) ∧ (p.a = none → p.c = 0) ∧ INTS (o :: JOIN (ps.take j)) ++ INTS p.l = INTS (o :: JOIN (ps.take (j + 1)))) := ⟨by rw [htk, JOIN_snoc, List.length_append, ht.1]; have := A.out.1; omega, hjr, by have := A.out.1; have := H.out.2.1; omega, (ht.below A.out.2.2).bytes, H.out.2.2.2.1 p hpm, by rw [htk, JOIN_snoc, ← INTS_append]; rfl⟩
          clear hl1 htk ht hpi hk hc hpm hjr
          go_wp2_with (at_builtin; refine app_any _ rfl (.tmp 33) (.tmp 34) rfl w.heap.size (.slice a8 N c8) N (INTS (o :: JOIN (ps.take j))) rfl A.out.2.1 p.a p.n p.c (INTS p.l) rfl S2.out.2.2.2.1 S2.out.2.2.2.2.1 (N + p.n) (INTS (o :: JOIN (ps.take (j + 1)))) rfl S2.out.2.2.2.2.2 S2.out.2.2.1 A.out.2.2.size ?_; intro a9 c9 w9 hown9 hgrow9)
          go_roundg r
          case measure => omega
          case rel =>
            refine ⟨j + 1, N + p.n, a9, c9, by have := S2.out.2.1; omega, ?_, rfl, S2.out.1, hown9, A.out.2.2.grown hgrow9 A.out.2.2.size (fun k e => (A.out.2.1.lt k e).1)⟩
            have h1 := H.out.2.2.1
            have h2 : wrap64 ((j : Int) + 1) = ((j + 1 : Nat) : Int) := by unfold wrap64; omega
            rw [h2]
    | succ r =>
      obtain ⟨pb, po, p, rfl, hpb, hpi, hc, ht, htk, hpm⟩ := H.out.1.at (i := i) (by omega)
      have hlt : (i : Int) < (k : Int) := by omega
      have hl1 := JOIN_take_length ps (i + 1)
      rw [htk, JOIN_snoc, List.length_append, ht.1] at hl1
      have hw1 : IntKind.i64.wrap ((L : Int) + (p.n : Int)) = ((L + p.n : Nat) : Int) := by rw [IntKind.wrap_i64]; have := A.out; have := H.out.2.1; omega
      have S : Aside (L + p.n = (JOIN (ps.take (i + 1))).length + 1 ∧ i + (r + 1) = k) := ⟨by rw [htk, JOIN_snoc, List.length_append, ht.1]; have := A.out; omega, hir⟩
      clear hl1 htk ht hpi hk
      go_wp2
      go_roundg r
      case measure => omega
      case rel =>
        refine ⟨i + 1, L + p.n, by omega, ?_, ?_, rfl, S.out.1⟩
        · have h1 := H.out.2.2.1
          have h2 : wrap64 ((i : Int) + 1) = ((i + 1 : Nat) : Int) := by unfold wrap64; omega
          rw [h2]
        · go_num
end Go.Proofs.YtnplhejopmoopaaDoor.HX

/- What LeafText, NodeText and FoldText of package hash answer. -/
namespace Go.Proofs.YtnplhejopmoopaaDoor.HX
open Go.RowKit
set_option maxRecDepth 100000

theorem own_mono {w : World} {base base' : Nat} {t : TypeId} {s : Nat} {v : Value} {n : Nat} {xs : List Value} (h : w.ownsRow base t s v n xs) (hb : base' ≤ base) : w.ownsRow base' t s v n xs :=
  ⟨h.1, h.2.imp id fun ⟨g, c, cur, a, b, r⟩ => ⟨g, c, cur, a, Nat.le_trans hb b, r⟩⟩
theorem slice_whole (b : Nat) (w : World) : (Instr.sliceAt 27 (.pointer (some ⟨b, 0, none⟩)) none none none).run Tryd.prog w = .ok (.slice (some ⟨b, 0, none⟩) 32 32) w := by
  have hn : Tryd.prog.arrayLen 27 = 32 := by kernel_rfl
  rw [run_sliceAt_array_all w 27 ⟨b, 0, none⟩ (by kernel_rfl), hn]
  have he : Tryd.prog.elem 27 = 5 := by kernel_rfl
  obtain ⟨i8, hi, h8⟩ := Option.map_eq_some_iff.1 info_u8
  simp only [Prod.mk.injEq] at h8
  rw [he]
  simp [sizeOf, typeInfo, hi, h8.2.1, slicedAt, Addr.add]
/-- the bytes of an array, as a text. -/
theorem Has.text {w : World} {g : Nat} {f : Nat → Nat} {t : TypeId} (h : Has w g (UARR .u8 32 f) t) (hf : ∀ i, f i < 256) : Text w (some ⟨g, 0, none⟩) 32 ((List.range 32).map f) :=
  ⟨by simp, fun _ => ⟨g, 0, rfl, h.lt, fun i hi => by rw [Nat.zero_add, h.cell, UARR_get _ _ _ _ hi, List.getD_eq_getElem?_getD, List.getElem?_map, List.getElem?_range hi]; rfl⟩, fun x hx => by obtain ⟨i, _, rfl⟩ := List.mem_map.1 hx; exact hf i⟩
theorem two_parts {w : World} {l r : Nat → Nat} {g h : Nat} {t u : TypeId} (hl : ∀ i, l i < 256) (hr : ∀ i, r i < 256) (h1 : Has w g (UARR .u8 32 l) t) (h2 : Has w h (UARR .u8 32 r) u) : Parts (w.alloc (.cells #[.slice (some ⟨g, 0, none⟩) 32 32, .slice (some ⟨h, 0, none⟩) 32 32] 104)) (some ⟨w.heap.size, 0, none⟩) 2 [⟨some ⟨g, 0, none⟩, 32, 32, (List.range 32).map l⟩, ⟨some ⟨h, 0, none⟩, 32, 32, (List.range 32).map r⟩] :=
  ⟨rfl, fun _ => ⟨w.heap.size, 0, rfl, by simp, fun i p hp => by
    have hi : i < 2 := (List.getElem?_eq_some_iff.1 hp).1
    rw [World.cell?_alloc_at _ _ _ _ rfl]
    have h2 : i = 0 ∨ i = 1 := by omega
    rcases h2 with rfl | rfl <;> (simp at hp; subst hp; rfl)⟩, fun p hp => by
    simp only [List.mem_cons, List.not_mem_nil, or_false] at hp
    rcases hp with rfl | rfl
    · exact ⟨(h1.alloc _).text hl, Nat.le_refl _, fun x e => by simp only [Option.some.injEq] at e; rw [← e]; exact (h1.alloc _).lt⟩
    · exact ⟨(h2.alloc _).text hr, Nat.le_refl _, fun x e => by simp only [Option.some.injEq] at e; rw [← e]; exact (h2.alloc _).lt⟩⟩
theorem two_join (l r : Nat → Nat) (g h : Nat) : JOIN [⟨some ⟨g, 0, none⟩, 32, 32, (List.range 32).map l⟩, ⟨some ⟨h, 0, none⟩, 32, 32, (List.range 32).map r⟩] = (List.range 32).map l ++ (List.range 32).map r := by simp [JOIN]

theorem nodetext_ok (l r : Nat → Nat) (hl : ∀ i, l i < 256) (hr : ∀ i, r i < 256) (w : World) : Calls Tryd.prog 56 #[.agg (UARR .u8 32 l), .agg (UARR .u8 32 r)] w fun e w' =>
    ∃ a' c', e = .returned (.slice a' 65 c') ∧ w'.ownsRow w.heap.size 5 1 (.slice a' 65 c') 65 (CELLS (INTS (1 :: ((List.range 32).map l ++ (List.range 32).map r)))) ∧ Below w.heap.size w w' := by
  have hs32 := slice_whole
  have H : Aside ((∀ i, l i < 256) ∧ (∀ i, r i < 256)) := ⟨hl, hr⟩
  clear hl hr
  go_enter Tryd.func56, Tryd.ntmps56
  go_wp2_with fail
  have U : Aside (Below w.heap.size w ((w.alloc (.cells (UARR .u8 32 l) 27)).alloc (.cells (UARR .u8 32 r) 27)) ∧ Has ((w.alloc (.cells (UARR .u8 32 l) 27)).alloc (.cells (UARR .u8 32 r) 27)) w.heap.size (UARR .u8 32 l) 27 ∧ Has ((w.alloc (.cells (UARR .u8 32 l) 27)).alloc (.cells (UARR .u8 32 r) 27)) (w.heap.size + 1) (UARR .u8 32 r) 27) := ⟨((Below.refl _ _).alloc (Nat.le_refl _) _).alloc (by simp) _, (Has.new w _ _).alloc _, Has.at _ _ _ (by simp)⟩
  generalize (w.alloc (.cells (UARR .u8 32 l) 27)).alloc (.cells (UARR .u8 32 r) 27) = w1 at *
  generalize hh : w.heap.size + 1 = h at *
  obtain ⟨X, hX⟩ : ∃ X, X = (w1.alloc (.cells #[.slice (some ⟨w.heap.size, 0, none⟩) 32 32, .slice (some ⟨h, 0, none⟩) 32 32] 104)).drew := ⟨_, rfl⟩
  have hXs : X.heap.size = w1.heap.size + 1 := by rw [hX]; simp [World.drew]
  have ct : Calls Tryd.prog 68 #[.int .u8 1, .slice (some ⟨w1.heap.size, 0, none⟩) 2 2] X fun e w' => ∃ a' c', e = .returned (.slice a' 65 c') ∧ w'.ownsRow X.heap.size 5 1 (.slice a' 65 c') 65 (CELLS (INTS (1 :: ((List.range 32).map l ++ (List.range 32).map r)))) ∧ Below X.heap.size X w' := by
    have hh1 : Has w1.drew w.heap.size (UARR .u8 32 l) 27 := U.out.2.1
    have hh2 : Has w1.drew h (UARR .u8 32 r) 27 := U.out.2.2
    have k := text_ok 1 (by decide) _ 2 2 _ _ (two_parts H.out.1 H.out.2 hh1 hh2) (fun p hp => by simp only [List.mem_cons, List.not_mem_nil, or_false] at hp; rcases hp with rfl | rfl <;> (intro e; cases e)) (by rw [two_join]; simp) (by decide)
    have e65 : ((List.range 32).map l ++ (List.range 32).map r).length + 1 = 65 := by simp
    rw [two_join, e65] at k
    rw [hX]
    exact k
  have HX : Aside (Below w.heap.size w X ∧ w.heap.size ≤ X.heap.size) := ⟨by rw [hX]; exact (U.out.1.alloc U.out.1.size _).drew, by rw [hXs]; have := U.out.1.size; omega⟩
  rw [hX] at ct
  go_region_held3 (fun _ => True) (trivial) (first | (go_at_call 68; refine ct.mono ?_; rintro e w5 ⟨a5, c5, rfl, hown5, hb5⟩))
  rw [← hX] at hown5 hb5
  have S : Aside (w5.ownsRow w.heap.size 5 1 (.slice a5 65 c5) 65 (CELLS (INTS (1 :: ((List.range 32).map l ++ (List.range 32).map r)))) ∧ Below w.heap.size w w5) := ⟨own_mono hown5 HX.out.2, HX.out.1.trans (hb5.mono HX.out.2)⟩
  clear hown5 hb5 ct
  go_wp2
  go_ret
  exact ⟨a5, c5, rfl, S.out.1, S.out.2⟩

end Go.Proofs.YtnplhejopmoopaaDoor.HX

/- What RootText of package hash answers. -/
namespace Go.Proofs.YtnplhejopmoopaaDoor.HX
open Go.RowKit
set_option maxRecDepth 100000

end Go.Proofs.YtnplhejopmoopaaDoor.HX

/- Two arrays held against each other. -/
namespace Go.Proofs.YtnplhejopmoopaaDoor.HX
open Go.RowKit
set_option maxRecDepth 100000

theorem Has.whole {w : World} {g : Nat} {F : Nat → Nat} {k : IntKind} {n : Nat} {t : TypeId} (h : Has w g (UARR k n F) t) : w.rangeAt g 0 (ULIST k n F) := fun j v hv => by
  have hj : j < n := by have := (List.getElem?_eq_some_iff.1 hv).1; rw [ULIST_length] at this; exact this
  rw [ULIST_get _ _ _ _ hj] at hv
  rw [Nat.zero_add, h.cell, UARR_get _ _ _ _ hj, hv]
theorem range_below {B : Nat} {w w' : World} {g o : Nat} {cs : List Value} (h : w.rangeAt g o cs) (hb : Below B w w') (hg : g < B) : w'.rangeAt g o cs := fun j v hv => (hb.cell (by exact hg)).trans (h j v hv)
theorem items_u8 (d n : Nat) (F G : Nat → Nat) (w : World) : ∀ is : List Nat, (∀ i ∈ is, i < n) → (Op.eqItems (d + 1) 5 1 (UARR .u8 n F) (UARR .u8 n G) is).run Tryd.prog w = .ok (is.all fun i => F i == G i) w
  | [], _ => by simp [Op.eqItems]
  | i :: is, h => by
    have hp : Tryd.prog.plainKey 5 = true := by kernel_rfl
    have hi : i < n := h i (by simp)
    have h1 := run_part_plain (P := Tryd.prog) w hp (UARR_get .u8 n F i hi)
    have h2 := run_part_plain (P := Tryd.prog) w hp (UARR_get .u8 n G i hi)
    have h3 := run_equalIn_int (P := Tryd.prog) w d 5 .u8 .u8 (F i : Nat) (G i : Nat) Tryd.underlying5
    have ih := items_u8 d n F G w is (fun j hj => h j (by simp [hj]))
    rw [Op.eqItems, Nat.mul_one]
    simp only [Sem.run_bind, h1, h2, h3, Result.andThen_ok]
    by_cases e : F i = G i
    · simp [e, ih]
    · have e2 : ((F i : Int) == (G i : Int)) = false := by simp; omega
      simp [e2, e]
theorem equal_hash (F G : Nat → Nat) (w : World) : (Op.equalIn 10000 27 (.agg (UARR .u8 32 F)) (.agg (UARR .u8 32 G))).run Tryd.prog w = .ok ((List.range 32).all fun i => F i == G i) w := by
  obtain ⟨i8, hi, _⟩ := Option.map_eq_some_iff.1 info_u8
  rw [run_equalIn_array (P := Tryd.prog) w 9999 (UARR .u8 32 F) (UARR .u8 32 G) Tryd.underlying27 hi]
  have hc : Tryd.prog.cellsOf 5 = 1 := by kernel_rfl
  rw [hc]
  exact items_u8 9998 32 F G w _ (fun i hi => by simpa using hi)
theorem equal_same (F : Nat → Nat) (w : World) : (Op.equalIn 10000 27 (.agg (UARR .u8 32 F)) (.agg (UARR .u8 32 F))).run Tryd.prog w = .ok true w := by
  rw [equal_hash]
  congr 1
  simp
end Go.Proofs.YtnplhejopmoopaaDoor.HX

/- The hashes of the texts: Leaf, Node, Fold and Root, of package hash alone. -/
namespace Go.Proofs.YtnplhejopmoopaaDoor.HX
open Go.RowKit
set_option maxRecDepth 100000

theorem own_text' {w : World} {base n c : Nat} {a : Option Addr} {l : List Nat} (h : w.ownsRow base 5 1 (.slice a n c) n (CELLS (INTS l))) (hl : Small8 l) : Text w a n l := Text.of_bytes (own_bytes_any h (INTS_bounds hl)).1
theorem own_nil' {w : World} {base n c s : Nat} {a : Option Addr} {t : TypeId} {xs : List Value} (h : w.ownsRow base t s (.slice a n c) n xs) : a = none → c = 0 := fun ha => by
  rcases h.2 with ⟨hv, _⟩ | ⟨g, cap, cur, hv, _⟩
  · simp at hv
    exact hv.2.2
  · subst ha
    simp at hv
theorem lone_parts {w : World} {a : Option Addr} {n c : Nat} {l : List Nat} (hA : Text w a n l) (hnc : n ≤ c) (hx : ∀ x, a = some x → x.block < w.heap.size) : Parts (w.alloc (.cells #[.slice a n c] 104)) (some ⟨w.heap.size, 0, none⟩) 1 [⟨a, n, c, l⟩] :=
  ⟨rfl, fun _ => ⟨w.heap.size, 0, rfl, by simp, fun i p hp => by
      have hi : i < 1 := (List.getElem?_eq_some_iff.1 hp).1
      obtain rfl : i = 0 := by omega
      simp only [List.getElem?_cons_zero, Option.some.injEq] at hp
      subst hp
      rw [World.cell?_alloc_at _ _ _ _ rfl]
      rfl⟩, fun p hp => by
      simp only [List.mem_singleton] at hp
      subst hp
      exact ⟨hA.below ((Below.refl _ _).alloc (Nat.le_refl _) _), hnc, fun x e => by have := hx x e; simp; omega⟩⟩
/-- a text of one's own, as the one part of a sum. -/
theorem own_parts {w : World} {B n c : Nat} {a : Option Addr} {l : List Nat} (h : w.ownsRow B 5 1 (.slice a n c) n (CELLS (INTS l))) (hs : Small8 l) : Parts (w.alloc (.cells #[.slice a n c] 104)) (some ⟨w.heap.size, 0, none⟩) 1 [⟨a, n, c, l⟩] ∧ (a = none → c = 0) := by
  refine ⟨lone_parts (own_text' h hs) ?_ (fun x e => ?_), own_nil' h⟩
  · exact (own_bytes_any h (INTS_bounds hs)).2
  · subst e
    rcases h.2 with ⟨e, _⟩ | ⟨g, c2, cur, e, _, hg, _⟩
    · simp at e
    · simp only [Value.slice.injEq, Option.some.injEq] at e
      rw [e.1]
      exact (Array.getElem?_eq_some_iff.1 hg).1
theorem join_one (a : Option Addr) (n c : Nat) (l : List Nat) : JOIN [⟨a, n, c, l⟩] = l := by simp [JOIN]
theorem small_cons' {x : Nat} {l : List Nat} (hx : x < 256) (h : Small8 l) : Small8 (x :: l) := fun y hy => by
  rcases List.mem_cons.1 hy with rfl | hy
  · exact hx
  · exact h y hy
theorem small_app' {l k : List Nat} (h1 : Small8 l) (h2 : Small8 k) : Small8 (l ++ k) := fun y hy => by
  rcases List.mem_append.1 hy with hy | hy
  · exact h1 y hy
  · exact h2 y hy
theorem small_map' {f : Nat → Nat} (h : ∀ i, f i < 256) : Small8 ((List.range 32).map f) := fun y hy => by
  obtain ⟨i, _, rfl⟩ := List.mem_map.1 hy
  exact h i
/-- the sum of one text of one's own, of package hash. -/
theorem lone_sum {w : World} (d : Int) {B n c : Nat} {a : Option Addr} {l : List Nat} (h : w.ownsRow B 5 1 (.slice a n c) n (CELLS (INTS l))) (hs : Small8 l) (hl : l.length < 5000) (hT : Tabled w) :
    Calls Tryd.prog 55 #[.int .i64 d, .slice (some ⟨w.heap.size, 0, none⟩) 1 1] (w.alloc (.cells #[.slice a n c] 104)) fun e w' => e = .returned (.agg (UARR .u8 32 (HASHOF d l))) ∧ Below (w.alloc (.cells #[.slice a n c] 104)).heap.size (w.alloc (.cells #[.slice a n c] 104)) w' := by
  have := sum_ok d _ 1 1 _ _ (own_parts h hs).1 (hT.below ((Below.refl _ _).alloc (Nat.le_refl _) _)) (by rw [join_one]; omega) (by decide)
  rw [join_one] at this
  exact this
theorem node_ok (d : Int) (l r : Nat → Nat) (hl : ∀ i, l i < 256) (hr : ∀ i, r i < 256) (w : World) (hT : Tabled w) : Calls Tryd.prog 43 #[.int .i64 d, .agg (UARR .u8 32 l), .agg (UARR .u8 32 r)] w fun e w' => e = .returned (.agg (UARR .u8 32 (HASHOF d (1 :: ((List.range 32).map l ++ (List.range 32).map r))))) ∧ Below w.heap.size w w' := by
  have hz := zero32
  have ct := fun W => nodetext_ok l r hl hr W
  have H : Aside ((∀ i, l i < 256) ∧ (∀ i, r i < 256) ∧ Tabled w) := ⟨hl, hr, hT⟩
  obtain ⟨W, zb, lb, rb, hW, hzb, hlb, hrb, R, h4, h5⟩ : ∃ W zb lb rb, W = ((w.alloc (.cells (UARR .u8 32 l) 27)).alloc (.cells (UARR .u8 32 r) 27)).alloc (.cells (UARR .u8 32 fun _ => 0) 27) ∧ zb = w.heap.size + 1 + 1 ∧ lb = w.heap.size ∧ rb = w.heap.size + 1 ∧ Aside (Has W zb (UARR .u8 32 fun _ => 0) 27 ∧ Below w.heap.size w W ∧ w.heap.size ≤ zb) ∧ W.rangeAt lb 0 (ULIST .u8 32 l) ∧ W.rangeAt rb 0 (ULIST .u8 32 r) := by
    refine ⟨_, _, _, _, rfl, rfl, rfl, rfl, ⟨Has.at _ _ _ (by simp), (((Below.refl _ _).alloc (Nat.le_refl _) _).alloc (by simp) _).alloc (by simp; omega) _, by omega⟩, (((Has.new w _ _).alloc _).alloc _).whole, ((Has.at _ _ _ (by simp)).alloc _).whole⟩
  clear hl hr hT
  go_enter Tryd.func43, Tryd.ntmps43
  go_wp2_with (first
    | (rw [← hW]; refine wpList_load_mid rfl 27 (.tmp 4) rfl w.heap.size 0 rfl (ULIST .u8 32 l) (.array 32 5) (by rw [← hlb]; exact h4) Tryd.underlying27 rfl (by rw [ULIST_length]; exact info_hash) ?_; rw [← UARR_list])
    | (refine wpList_load_mid rfl 27 (.tmp 5) rfl (w.heap.size + 1) 0 rfl (ULIST .u8 32 r) (.array 32 5) (by rw [← hrb]; exact h5) Tryd.underlying27 rfl (by rw [ULIST_length]; exact info_hash) ?_; rw [← UARR_list]))
  rw [← hzb]
  refine (ct _).mono ?_
  rintro e w2 ⟨a', c', rfl, hown, hb⟩
  rw [← hW] at hown hb
  clear ct h4 h5 hW hzb hlb hrb
  have S : Aside (Has w2 zb (UARR .u8 32 fun _ => 0) 27 ∧ Below w.heap.size w w2) := ⟨R.out.1.keep hb, R.out.2.1.trans (hb.mono R.out.2.1.size)⟩
  have cs := lone_sum d hown (small_cons' (by decide) (small_app' (small_map' H.out.1) (small_map' H.out.2.1))) (by simp) (H.out.2.2.below S.out.2)
  have Z : Aside (w.heap.size ≤ zb) := R.out.2.2
  clear hown hb R
  go_wp2_with fail
  refine cs.mono ?_
  rintro e w3 ⟨rfl, hb3⟩
  have hb4 : Below w2.heap.size w2 w3 := ((Below.refl _ _).alloc (Nat.le_refl _) _).trans (hb3.mono (by simp))
  have S2 : Aside (Has w3 zb (UARR .u8 32 fun _ => 0) 27 ∧ Below w.heap.size w w3) := ⟨S.out.1.keep hb4, S.out.2.trans (hb4.mono S.out.2.size)⟩
  clear cs hb3 hb4 S
  go_wp2_with (first
    | (refine wpList_store_row rfl 27 _ _ rfl _ _ rfl rfl _ _ S2.out.1 (info_HASH _) (by rw [UARR_size, UARR_size]) (UARR_one _ _ _) ?_))
  refine bodyPost_ret (v := .agg (UARR .u8 32 (HASHOF d (1 :: ((List.range 32).map l ++ (List.range 32).map r))))) ?_ rfl ⟨rfl, below_row S2.out.2 Z.out _⟩
  exact results_cell_row rfl _ _ zb 27 _ (0, 0) _ rfl (S2.out.1.row _) Tryd.underlying27 rfl (info_HASH _)
end Go.Proofs.YtnplhejopmoopaaDoor.HX

/- The hashes of a forest's nodes, and which an append makes. -/
namespace Go.Proofs.YtnplhejopmoopaaDoor.HX
open Go.RowKit
set_option maxRecDepth 100000

/-- the hash over two. -/
def NODEF (d : Int) (l r : Nat → Nat) : Nat → Nat := HX.HASHOF d (1 :: ((List.range 32).map l ++ (List.range 32).map r))
theorem NODEF_lt (d : Int) (l r : Nat → Nat) (i : Nat) : NODEF d l r i < 256 := HX.STATE_lt d _ _ i
/-- the hash of the k-th node of height h over the leaves f. -/
def VAL (d : Int) (f : Nat → Nat → Nat) : Nat → Nat → Nat → Nat
  | 0, k => f k
  | h + 1, k => NODEF d (VAL d f h (2 * k)) (VAL d f h (2 * k + 1))
theorem VAL_lt {d : Int} {f : Nat → Nat → Nat} {n : Nat} (hf : ∀ k, k < n → ∀ i, f k i < 256) : ∀ (h k : Nat), (k + 1) * 2 ^ h ≤ n → ∀ i, VAL d f h k i < 256
  | 0, k, hk, i => hf k (by simp at hk; omega) i
  | h + 1, k, _, i => NODEF_lt _ _ _ i
theorem VAL_congr {d : Int} {f g : Nat → Nat → Nat} {n : Nat} (hfg : ∀ k, k < n → f k = g k) : ∀ (h k : Nat), (k + 1) * 2 ^ h ≤ n → VAL d f h k = VAL d g h k
  | 0, k, hk => hfg k (by simp at hk; omega)
  | h + 1, k, hk => by
    have e : (k + 1) * 2 ^ (h + 1) = (2 * k + 1 + 1) * 2 ^ h := by rw [Nat.pow_succ, show 2 * k + 1 + 1 = (k + 1) * 2 by omega, Nat.mul_assoc, Nat.mul_comm (2 ^ h) 2]
    have h2 : (2 * k + 1 + 1) * 2 ^ h ≤ n := by omega
    have h1 : (2 * k + 1) * 2 ^ h ≤ n := Nat.le_trans (Nat.mul_le_mul_right _ (by omega)) h2
    rw [VAL, VAL, VAL_congr hfg h (2 * k) h1, VAL_congr hfg h (2 * k + 1) h2]
/-- one leaf more. -/
def LEAFS (f : Nat → Nat → Nat) (n : Nat) (x : Nat → Nat) : Nat → Nat → Nat := fun k => if k = n then x else f k
theorem LEAFS_at (f : Nat → Nat → Nat) (n : Nat) (x : Nat → Nat) : LEAFS f n x n = x := by simp [LEAFS]
theorem LEAFS_old (f : Nat → Nat → Nat) (n : Nat) (x : Nat → Nat) {k : Nat} (h : k < n) : LEAFS f n x k = f k := by
  unfold LEAFS
  rw [if_neg (by omega)]
/-- the first j bits of n are set. -/
def ONES (n j : Nat) : Prop := ∀ i, i < j → n / 2 ^ i % 2 = 1
theorem ONES.next {n j : Nat} (h : ONES n j) (hj : n / 2 ^ j % 2 = 1) : ONES n (j + 1) := fun i hi => by
  by_cases e : i = j
  · subst e; exact hj
  · exact h i (by omega)
theorem half_pow (n j : Nat) : n / 2 ^ (j + 1) = n / 2 ^ j / 2 := by rw [Nat.pow_succ, Nat.div_div_eq_div_mul]
/-- the places of what an append makes come one behind the other. -/
theorem ONES.place {n : Nat} : ∀ {j : Nat}, ONES n j → PLC j (n / 2 ^ j) = NODES n + j
  | 0, _ => by rw [Nat.pow_zero, Nat.div_one, PLC_leaf]; rfl
  | j + 1, h => by
    have h1 := h j (by omega)
    have ih := ONES.place (n := n) (j := j) fun i hi => h i (by omega)
    have e : n / 2 ^ j = 2 * (n / 2 ^ (j + 1)) + 1 := by rw [half_pow]; omega
    rw [PLC_up_right, ← e, ih]
    omega
/-- all that lies under it are the leaves up to n. -/
theorem ONES.span {n : Nat} : ∀ {j : Nat}, ONES n j → (n / 2 ^ j + 1) * 2 ^ j = n + 1
  | 0, _ => by simp
  | j + 1, h => by
    have h1 := h j (by omega)
    have ih := ONES.span (n := n) (j := j) fun i hi => h i (by omega)
    have e : n / 2 ^ j = 2 * (n / 2 ^ (j + 1)) + 1 := by rw [half_pow]; omega
    rw [← ih, e]
    generalize n / 2 ^ (j + 1) = q
    rw [Nat.pow_succ, show 2 * q + 1 + 1 = (q + 1) * 2 by omega, Nat.mul_assoc, Nat.mul_comm (2 ^ j) 2]
theorem ONES.of_span {n h k : Nat} (e : (k + 1) * 2 ^ h = n + 1) : k = n / 2 ^ h ∧ ONES n h := by
  have hp : 0 < 2 ^ h := Nat.two_pow_pos h
  have ek : n = k * 2 ^ h + (2 ^ h - 1) := by
    have : (k + 1) * 2 ^ h = k * 2 ^ h + 2 ^ h := by rw [Nat.add_mul, Nat.one_mul]
    omega
  refine ⟨?_, fun i hi => ?_⟩
  · rw [ek, Nat.mul_comm k, Nat.mul_add_div hp, Nat.div_eq_of_lt (by omega), Nat.add_zero]
  · obtain ⟨m, rfl⟩ : ∃ m, h = i + 1 + m := ⟨h - (i + 1), by omega⟩
    have hpi : 0 < 2 ^ i := Nat.two_pow_pos i
    have e2 : n + 1 = ((k + 1) * 2 ^ m * 2) * 2 ^ i := by
      rw [← e, Nat.pow_add, Nat.pow_succ, Nat.mul_assoc (k + 1), Nat.mul_assoc (k + 1)]
      congr 1
      rw [Nat.mul_comm (2 ^ i * 2), ← Nat.mul_assoc, Nat.mul_assoc (2 ^ m), Nat.mul_assoc (2 ^ m), Nat.mul_comm 2 (2 ^ i)]
    obtain ⟨q, hq⟩ : ∃ q, (k + 1) * 2 ^ m = q + 1 := ⟨(k + 1) * 2 ^ m - 1, by have : 0 < (k + 1) * 2 ^ m := Nat.mul_pos (by omega) (Nat.two_pow_pos m); omega⟩
    rw [hq] at e2
    have e3 : n = (2 * q + 1) * 2 ^ i + (2 ^ i - 1) := by
      have : (q + 1) * 2 * 2 ^ i = (2 * q + 1) * 2 ^ i + 2 ^ i := by rw [show (q + 1) * 2 = 2 * q + 1 + 1 by omega, Nat.add_mul, Nat.one_mul]
      omega
    have e4 : n / 2 ^ i = 2 * q + 1 := by
      rw [e3, Nat.mul_comm (2 * q + 1), Nat.mul_add_div hpi, Nat.div_eq_of_lt (by omega), Nat.add_zero]
    omega
theorem ones_end (n : Nat) : ∃ t, ONES n t ∧ n / 2 ^ t % 2 = 0 := by
  suffices h : ∀ m j, ONES n j → n ≤ m + j → ∃ t, ONES n t ∧ n / 2 ^ t % 2 = 0 from h n 0 (fun i hi => by omega) (by omega)
  intro m
  induction m with
  | zero =>
    intro j hj hn
    refine ⟨j, hj, ?_⟩
    have : n < 2 ^ j := Nat.lt_of_le_of_lt (by omega) (Nat.lt_two_pow_self (n := j))
    rw [Nat.div_eq_of_lt this]
  | succ m ih =>
    intro j hj hn
    by_cases e : n / 2 ^ j % 2 = 0
    · exact ⟨j, hj, e⟩
    · exact ih (j + 1) (hj.next (by omega)) (by omega)
/-- how many nodes an append makes. -/
theorem ONES.nodes {n t : Nat} (h : ONES n t) (ht : n / 2 ^ t % 2 = 0) : NODES (n + 1) = NODES n + t + 1 := by
  have hp : 0 < 2 ^ t := Nat.two_pow_pos t
  obtain ⟨q, hq⟩ : ∃ q, n / 2 ^ t = 2 * q := ⟨n / 2 ^ t / 2, by omega⟩
  have hs := h.span
  rw [hq] at hs
  have e1 : PC (n + 1) = PC q + 1 := by rw [← hs, PC_shift, PC_odd]
  have e2 : n = (2 * q) * 2 ^ t + (2 ^ t - 1) := by
    have : (2 * q + 1) * 2 ^ t = 2 * q * 2 ^ t + 2 ^ t := by rw [Nat.add_mul, Nat.one_mul]
    omega
  have e3 : PC n = PC q + t := by
    rw [e2, PC_add t (2 * q) (2 ^ t - 1) (by omega), PC_even, PC_ones]
  have h1 := NODES_add n
  have h2 := NODES_add (n + 1)
  omega
theorem ONES.lt {n t : Nat} (h : ONES n t) : t ≤ n := by
  have h1 := h.span
  have h2 : t < 2 ^ t := Nat.lt_two_pow_self
  have h3 : 1 * 2 ^ t ≤ (n / 2 ^ t + 1) * 2 ^ t := Nat.mul_le_mul_right _ (Nat.le_add_left 1 _)
  generalize n / 2 ^ t = q at *
  omega
/-- the place of a node that lies over the first n leaves. -/
theorem PLC_under {n h k : Nat} (hk : (k + 1) * 2 ^ h ≤ n) : PLC h k < NODES n := by
  have h1 := PLC_last h k
  have h2 := last_lt h k
  obtain ⟨m, hm⟩ : ∃ m, (k + 1) * 2 ^ h = m + 1 := ⟨(k + 1) * 2 ^ h - 1, by omega⟩
  rw [hm, Nat.add_sub_cancel] at h1
  have h3 : NODES (m + 1) ≤ NODES n := NODES_le (by omega)
  have ho : ONES m h := (ONES.of_span hm).2
  obtain ⟨t, ht1, ht2⟩ : ∃ t, ONES m t ∧ m / 2 ^ t % 2 = 0 := ones_end m
  have h4 := ht1.nodes ht2
  have h5 : h ≤ t := by
    rcases Nat.lt_or_ge t h with hlt | hge
    · have := ho t hlt
      omega
    · exact hge
  omega
end Go.Proofs.YtnplhejopmoopaaDoor.HX

/- What the small functions of package num answer, call by call, and that awake answers true. -/
namespace Go.Proofs.YtnplhejopmoopaaDoor
open Go.RowKit

theorem shr_raw (x n : Int) (w : World) : Calls Tryd.prog 103 #[.int .u64 x, .int .i64 n] w fun e w' => e = .returned (.int .u64 (if n < 0 then IntKind.u64.wrap (x * 2 ^ min (IntKind.u64.wrap (-IntKind.u64.wrap n)).toNat 64) else x / 2 ^ min (IntKind.u64.wrap n).toNat 64)) ∧ w = w' := by
  by_cases h : n < 0
  · rw [if_pos h]
    go_enter Tryd.func103, Tryd.ntmps103
    go_wp2
    go_ret
    exact ⟨rfl, rfl⟩
  · rw [if_neg h]
    go_enter Tryd.func103, Tryd.ntmps103
    go_wp2
    go_ret
    exact ⟨rfl, rfl⟩
theorem mask_raw (n : Int) (w : World) : Calls Tryd.prog 53 #[.int .i64 n] w fun e w' => e = .returned (.int .u64 (if n ≤ 0 then 0 else IntKind.u64.wrap (IntKind.u64.wrap (1 * 2 ^ min (IntKind.u64.wrap n).toNat 64) - 1))) ∧ w = w' := by
  by_cases h : n ≤ 0
  · rw [if_pos h]
    go_enter Tryd.func53, Tryd.ntmps53
    go_wp2
    go_ret
    exact ⟨rfl, rfl⟩
  · rw [if_neg h]
    go_enter Tryd.func53, Tryd.ntmps53
    go_wp2
    go_ret
    exact ⟨rfl, rfl⟩

theorem shr_ok (X : Nat) (n : Int) (hX : X < 2 ^ 64) (h0 : -(2 ^ 63) ≤ n) (h1 : n < 2 ^ 63) (w : World) : Calls Tryd.prog 103 #[.int .u64 (X : Int), .int .i64 n] w fun e w' => e = .returned (.int .u64 ((SHR X n : Nat) : Int)) ∧ w = w' :=
  (shr_raw X n w).mono fun e w' h => by rw [shr_raw_eq hX h0 h1] at h; exact h
theorem mask_ok (n : Int) (h1 : n < 2 ^ 63) (w : World) : Calls Tryd.prog 53 #[.int .i64 n] w fun e w' => e = .returned (.int .u64 ((MASK n : Nat) : Int)) ∧ w = w' :=
  (mask_raw n w).mono fun e w' h => by rw [mask_raw_eq h1] at h; exact h

end Go.Proofs.YtnplhejopmoopaaDoor

/- What OnesCount64, TrailingZeros64 and Len64, and num's Ones, Low and High answer. -/
namespace Go.Proofs.YtnplhejopmoopaaDoor
open Go.RowKit

theorem ones_raw (x x1 x2 x3 x4 x5 x6 r : Int) (w : World)
    (e1 : IntKind.u64.wrap (bits .and .u64 (x / 2) 6148914691236517205 + bits .and .u64 x 6148914691236517205) = x1)
    (e2 : IntKind.u64.wrap (bits .and .u64 (x1 / 4) 3689348814741910323 + bits .and .u64 x1 3689348814741910323) = x2)
    (e3 : bits .and .u64 (IntKind.u64.wrap (x2 / 16 + x2)) 1085102592571150095 = x3)
    (e4 : IntKind.u64.wrap (x3 + x3 / 256) = x4) (e5 : IntKind.u64.wrap (x4 + x4 / 65536) = x5) (e6 : IntKind.u64.wrap (x5 + x5 / 4294967296) = x6)
    (e7 : bits .and .i64 (wrap64 x6) 127 = r) :
    Calls Tryd.prog 58 #[.int .u64 x] w fun e w' => e = .returned (.int .i64 r) ∧ w = w' := by
  go_enter Tryd.func58, Tryd.ntmps58
  go_wp2
  go_ret
  exact ⟨rfl, rfl⟩
theorem wrap_nat {a : Nat} {A : Int} (e : A = (a : Int)) (h : a < 2 ^ 64) : IntKind.u64.wrap A = (a : Int) := by rw [wrapU, e]; omega
theorem and_lit {a c : Nat} {A C : Int} (eA : A = (a : Int)) (eC : C = (c : Int)) (ha : a < 2 ^ 64) (hc : c < 2 ^ 64) : bits .and .u64 A C = ((a &&& c : Nat) : Int) := by
  subst eA eC
  exact and_eq ha hc
theorem DLE_top {w D : Nat} : ∀ (n x : Nat), DLE w D (n + 1) x → x / 2 ^ (w * n) % 2 ^ w ≤ D
  | 0, x, h => by simpa using h.1
  | n + 1, x, h => by
    have := DLE_top n (x / 2 ^ w) h.2
    rw [Nat.div_div_eq_div_mul, ← Nat.pow_add, show w + w * n = w * (n + 1) by rw [Nat.mul_add, Nat.mul_one, Nat.add_comm]] at this
    exact this
theorem last127 (y p : Nat) (h : y % 128 = p) : bits .and .i64 (wrap64 (y : Int)) 127 = (p : Int) := by
  rw [and127]
  unfold wrap64
  omega
theorem onescount_ok (X : Nat) (hX : X < 2 ^ 64) (w : World) : Calls Tryd.prog 58 #[.int .u64 (X : Int)] w fun e w' => e = .returned (.int .i64 ((POP X : Nat) : Int)) ∧ w = w' := by
  have h1 : X1 X < 2 ^ 64 := by rw [X1_eq]; exact ADDF_lt (k := 1) (by decide) 32 _
  have h2 := X2_lt X
  have h3 := X3_lt X
  have h16 : X2 X / 16 + X2 X < 2 ^ 64 := by
    have ht := DLE_top 15 (X2 X) (X2_le X)
    simp only [Nat.reducePow, Nat.reduceMul] at ht h2 ⊢
    generalize X2 X = y at *
    omega
  have hl := pop_last h3 (X3_le X)
  rw [X3_sum] at hl
  have hlt := hl.2
  have hle4 : X3 X + X3 X / 256 < 2 ^ 64 := Nat.lt_of_le_of_lt (by generalize X3 X + X3 X / 256 = y; omega) hlt
  have hle5 : X3 X + X3 X / 256 + (X3 X + X3 X / 256) / 65536 < 2 ^ 64 := Nat.lt_of_le_of_lt (by generalize X3 X + X3 X / 256 + (X3 X + X3 X / 256) / 65536 = y; omega) hlt
  refine ones_raw X (X1 X : Nat) (X2 X : Nat) (X3 X : Nat) (X3 X + X3 X / 256 : Nat) (X3 X + X3 X / 256 + (X3 X + X3 X / 256) / 65536 : Nat) (X3 X + X3 X / 256 + (X3 X + X3 X / 256) / 65536 + (X3 X + X3 X / 256 + (X3 X + X3 X / 256) / 65536) / 4294967296 : Nat) _ w ?_ ?_ ?_ ?_ ?_ ?_ ?_
  · have a1 : bits .and .u64 ((X : Int) / 2) 6148914691236517205 = ((X / 2 &&& 6148914691236517205 : Nat) : Int) := and_lit (by simp) rfl (by omega) (by decide)
    have a2 : bits .and .u64 (X : Int) 6148914691236517205 = ((X &&& 6148914691236517205 : Nat) : Int) := and_lit rfl rfl hX (by decide)
    rw [a1, a2]
    exact wrap_nat (by unfold X1; rw [Int.natCast_add]) h1
  · have a1 : bits .and .u64 (((X1 X : Nat) : Int) / 4) 3689348814741910323 = ((X1 X / 4 &&& 3689348814741910323 : Nat) : Int) := and_lit (by simp) rfl (by omega) (by decide)
    have a2 : bits .and .u64 ((X1 X : Nat) : Int) 3689348814741910323 = ((X1 X &&& 3689348814741910323 : Nat) : Int) := and_lit rfl rfl h1 (by decide)
    rw [a1, a2]
    exact wrap_nat (by unfold X2; rw [Int.natCast_add]) h2
  · have a0 : IntKind.u64.wrap (((X2 X : Nat) : Int) / 16 + ((X2 X : Nat) : Int)) = ((X2 X / 16 + X2 X : Nat) : Int) := wrap_nat (by simp) h16
    rw [a0]
    exact and_lit rfl rfl h16 (by decide)
  · exact wrap_nat (by simp) hle4
  · exact wrap_nat (by simp) hle5
  · exact wrap_nat (by simp) hlt
  · exact last127 _ _ hl.1
theorem ones_one_raw (x r : Int) (w : World) (c : ∀ w, Calls Tryd.prog 58 #[.int .u64 x] w fun e w' => e = .returned (.int .i64 r) ∧ w = w') :
    Calls Tryd.prog 45 #[.int .u64 x] w fun e w' => e = .returned (.int .i64 r) ∧ w = w' := by
  go_enter Tryd.func45, Tryd.ntmps45
  go_wp2_with fail
  refine (c _).mono ?_
  rintro e w' ⟨rfl, rfl⟩
  go_wp2
  go_ret
  exact ⟨rfl, rfl⟩
theorem ones_ok (X : Nat) (hX : X < 2 ^ 64) (w : World) : Calls Tryd.prog 45 #[.int .u64 (X : Int)] w fun e w' => e = .returned (.int .i64 ((POP X : Nat) : Int)) ∧ w = w' :=
  ones_one_raw X _ w (fun w => onescount_ok X hX w)
end Go.Proofs.YtnplhejopmoopaaDoor
