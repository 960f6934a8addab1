/- Texts of PartOne, one behind the other: HashText, HashPairTexts, HashRootText, HashEq, HashSumPlain. -/
import Derived.ChangeKeysEq
import Derived.Deep.RegionHeldLaw
import Derived.Deep.RegionHeld3
import Derived.Test.YtnplhejopmoopaaDoorPartOneP6
/- What text of package hash answers. -/
namespace Go.Proofs.YtnplhejopmoopaaDoor.HX
open Go.RowKit
set_option maxRecDepth 100000

theorem make_room (q : Nat) (hq : q ≤ 1000000) (w : World) : (Instr.makeSlice 104 (.int .i64 0) (.int .i64 (q : Int))).run Tryd.prog w = .ok (.slice (some ⟨w.heap.size, 0, none⟩) 0 q) (w.alloc (.cells (BARR q fun _ => 0) 5)) := by
  obtain ⟨i8, hi, h8⟩ := Option.map_eq_some_iff.1 info_u8
  simp only [Prod.mk.injEq] at h8
  have h := run_make (P := Tryd.prog) w 104 5 i8 (.int .u8 0) Tryd.underlying104 hi h8.1 .i64 .i64 0 (q : Int) (by omega) (by omega) (by rw [h8.2.2]; omega) (by omega)
  rw [h8.2.1] at h
  have e : madeCells (Value.int .u8 0).cells (((q : Int).toNat) * 1) = BARR q fun _ => 0 := by
    rw [Int.toNat_natCast, Nat.mul_one]
    exact BARR_made q
  rw [e] at h
  exact h
theorem owns_room (w : World) (q : Nat) (hq : q ≤ 1000000) : (w.alloc (.cells (BARR q fun _ => 0) 5)).ownsRow w.heap.size 5 1 (.slice (some ⟨w.heap.size, 0, none⟩) 0 q) 0 (CELLS (INTS [])) :=
  ⟨by simp [CELLS, INTS], Or.inr ⟨w.heap.size, q, BARR q fun _ => 0, rfl, Nat.le_refl _, Has.new w _ _, Nat.zero_le _, by simp only [maxLen]; omega, by rw [BARR_size]; omega, by simp [CELLS, INTS]⟩⟩
theorem Parts.at {w : World} {a : Option Addr} {k : Nat} {ps : List PART} (h : Parts w a k ps) {i : Nat} (hi : i < k) : ∃ b off p, a = some ⟨b, off, none⟩ ∧ b < w.heap.size ∧ ps[i]? = some p ∧ w.cell? ⟨b, off + i, none⟩ = some (.slice p.a p.n p.c) ∧ Text w p.a p.n p.l ∧ ps.take (i + 1) = ps.take i ++ [p] ∧ p ∈ ps := by
  obtain ⟨b, off, e, hl, hc⟩ := h.2.1 (by omega)
  have hp : ps[i]? = some (ps[i]'(by have := h.1; omega)) := List.getElem?_eq_getElem _
  exact ⟨b, off, _, e, hl, hp, hc i _ hp, (h.2.2 _ (List.mem_of_getElem? hp)).1, by rw [List.take_add_one, hp, Option.toList_some], List.mem_of_getElem? hp⟩

set_option maxHeartbeats 1000000 in
theorem text_ok (o : Nat) (ho : o < 256) (a : Option Addr) (k c : Nat) (ps : List PART) (w : World) (hP : Parts w a k ps) (hnone : ∀ p ∈ ps, p.a = none → p.c = 0) (hlen : (JOIN ps).length < 5000) (hkk : k < 2 ^ 40) : Calls Tryd.prog 68 #[.int .u8 (o : Int), .slice a k c] w fun e w' =>
    ∃ a' c', e = .returned (.slice a' ((JOIN ps).length + 1) c') ∧ w'.ownsRow w.heap.size 5 1 (.slice a' ((JOIN ps).length + 1) c') ((JOIN ps).length + 1) (CELLS (INTS (o :: JOIN ps))) ∧ Below w.heap.size w w' := by
  have H : Aside (Parts w a k ps ∧ (JOIN ps).length < 5000 ∧ k < 2 ^ 40 ∧ (∀ p ∈ ps, p.a = none → p.c = 0) ∧ o < 256) := ⟨hP, hlen, hkk, hnone, ho⟩
  clear hP hlen hkk hnone ho
  go_enter Tryd.func68, Tryd.ntmps68
  go_wp2_with fail
  go_loopg [5, 13] k (fun r s5 s13 wx => ∃ i L : Nat, i + r = k ∧ s13 = .int .i64 i ∧ s5 = .int .i64 L ∧ w = wx ∧ Aside (L = (JOIN (ps.take i)).length + 1))
  case atStart => exact ⟨0, 1, by omega, rfl, rfl, rfl, rfl⟩
  case round =>
    obtain ⟨i, L, hir, rfl, rfl, rfl, A⟩ := hrel
    have hk : ps.length = k := H.out.1.1
    cases gk with
    | zero =>
      obtain rfl : i = k := by omega
      rw [List.take_of_length_le (by omega)] at A
      have hL : L ≤ 1000000 := by have := A.out; have := H.out.2.1; omega
      have hmk := make_room L hL
      have hO : Aside ((w.alloc (.cells (BARR L fun _ => 0) 5)).ownsRow w.heap.size 5 1 (.slice (some ⟨w.heap.size, 0, none⟩) 0 L) 0 (CELLS (INTS []))) := owns_room w L hL
      have HM : Aside (Bytes ((w.alloc (.cells (BARR L fun _ => 0) 5)).alloc (.cells #[.int .u8 (o : Int)] 5)) (some ⟨w.heap.size + 1, 0, none⟩) 1 [(o : Int)]) := by
        have h := row_bytes (w.alloc (.cells (BARR L fun _ => 0) 5)) 1 (fun _ => (o : Int)) [(o : Int)] rfl (fun i hi => by obtain rfl : i = 0 := (by omega); rfl) (fun x hx => by simp at hx; have := H.out.2.2.2.2; omega)
        have e : (w.alloc (.cells (BARR L fun _ => 0) 5)).heap.size = w.heap.size + 1 := by simp
        rw [e] at h
        exact h
      have HB : Aside (Below w.heap.size w ((w.alloc (.cells (BARR L fun _ => 0) 5)).alloc (.cells #[.int .u8 (o : Int)] 5))) := ((Below.refl _ _).alloc (Nat.le_refl _) _).alloc (by simp) _
      clear hL hk hir
      go_wp2_with (at_builtin; refine app_u8 _ rfl (.tmp 23) (.tmp 25) rfl w.heap.size (.slice (some ⟨w.heap.size, 0, none⟩) 0 L) 0 (INTS []) rfl (hO.out.alloc _) (w.heap.size + 1) 0 1 1 [(o : Int)] rfl HM.out (by decide) (by decide) (by simp; omega) ?_; intro g8 cap8 w8 hown8 hgrow8 hg8)
      have S : Aside (w8.ownsRow w.heap.size 5 1 (.slice (some ⟨g8, 0, none⟩) (0 + 1) cap8) (0 + 1) (CELLS (INTS (o :: JOIN (ps.take 0)))) ∧ Below w.heap.size w w8) := ⟨hown8, HB.out.grown hgrow8 (by simp; omega) (fun k e => by simp [Value.ownBlock] at e; omega)⟩
      clear hown8 hgrow8 hg8 HB HM hO hmk A
      go_loopg [8, 29] i (fun r s8 s29 wx => ∃ (j N : Nat) (a8 : Option Addr) (c8 : Nat), j + r = i ∧ s29 = .int .i64 j ∧ s8 = .slice a8 N c8 ∧ Aside (N = (JOIN (ps.take j)).length + 1 ∧ wx.ownsRow w.heap.size 5 1 (.slice a8 N c8) N (CELLS (INTS (o :: JOIN (ps.take j)))) ∧ Below w.heap.size w wx))
      case atStart => exact ⟨0, 0 + 1, _, _, by omega, rfl, rfl, rfl, S.out.1, S.out.2⟩
      case round =>
        obtain ⟨j, N, a8, c8, hjr, rfl, rfl, A⟩ := hrel
        have hk : ps.length = i := H.out.1.1
        cases gk with
        | zero =>
          obtain rfl : j = i := by omega
          rw [List.take_of_length_le (by omega)] at A
          clear hk
          go_wp2
          go_ret
          obtain ⟨e1, e2, e3⟩ := A.out
          subst e1
          exact ⟨a8, c8, rfl, e2, e3⟩
        | succ r =>
          obtain ⟨pb, po, p, rfl, hpb, hpi, hc, ht, htk, hpm⟩ := H.out.1.at (i := j) (by omega)
          have hlt : (j : Int) < (i : Int) := by omega
          have hl1 := JOIN_take_length ps (j + 1)
          rw [htk, JOIN_snoc, List.length_append, ht.1] at hl1
          have hcr := (A.out.2.2.cell (p := ⟨pb, po + j, none⟩) (by exact hpb)).trans hc
          have S2 : Aside (N + p.n = (JOIN (ps.take (j + 1))).length + 1 ∧ j + (r + 1) = i ∧ N + p.n ≤ 140737488355328 ∧ Bytes wr p.a p.n (INTS p.l) ∧ (p.a = none → p.c = 0) ∧ INTS (o :: JOIN (ps.take j)) ++ INTS p.l = INTS (o :: JOIN (ps.take (j + 1)))) := ⟨by rw [htk, JOIN_snoc, List.length_append, ht.1]; have := A.out.1; omega, hjr, by have := A.out.1; have := H.out.2.1; omega, (ht.below A.out.2.2).bytes, H.out.2.2.2.1 p hpm, by rw [htk, JOIN_snoc, ← INTS_append]; rfl⟩
          clear hl1 htk ht hpi hk hc hpm hjr
          go_wp2_with (at_builtin; refine app_any _ rfl (.tmp 33) (.tmp 34) rfl w.heap.size (.slice a8 N c8) N (INTS (o :: JOIN (ps.take j))) rfl A.out.2.1 p.a p.n p.c (INTS p.l) rfl S2.out.2.2.2.1 S2.out.2.2.2.2.1 (N + p.n) (INTS (o :: JOIN (ps.take (j + 1)))) rfl S2.out.2.2.2.2.2 S2.out.2.2.1 A.out.2.2.size ?_; intro a9 c9 w9 hown9 hgrow9)
          go_roundg r
          case measure => omega
          case rel =>
            refine ⟨j + 1, N + p.n, a9, c9, by have := S2.out.2.1; omega, ?_, rfl, S2.out.1, hown9, A.out.2.2.grown hgrow9 A.out.2.2.size (fun k e => (A.out.2.1.lt k e).1)⟩
            have h1 := H.out.2.2.1
            have h2 : wrap64 ((j : Int) + 1) = ((j + 1 : Nat) : Int) := by unfold wrap64; omega
            rw [h2]
    | succ r =>
      obtain ⟨pb, po, p, rfl, hpb, hpi, hc, ht, htk, hpm⟩ := H.out.1.at (i := i) (by omega)
      have hlt : (i : Int) < (k : Int) := by omega
      have hl1 := JOIN_take_length ps (i + 1)
      rw [htk, JOIN_snoc, List.length_append, ht.1] at hl1
      have hw1 : IntKind.i64.wrap ((L : Int) + (p.n : Int)) = ((L + p.n : Nat) : Int) := by rw [IntKind.wrap_i64]; have := A.out; have := H.out.2.1; omega
      have S : Aside (L + p.n = (JOIN (ps.take (i + 1))).length + 1 ∧ i + (r + 1) = k) := ⟨by rw [htk, JOIN_snoc, List.length_append, ht.1]; have := A.out; omega, hir⟩
      clear hl1 htk ht hpi hk
      go_wp2
      go_roundg r
      case measure => omega
      case rel =>
        refine ⟨i + 1, L + p.n, by omega, ?_, ?_, rfl, S.out.1⟩
        · have h1 := H.out.2.2.1
          have h2 : wrap64 ((i : Int) + 1) = ((i + 1 : Nat) : Int) := by unfold wrap64; omega
          rw [h2]
        · go_num
end Go.Proofs.YtnplhejopmoopaaDoor.HX

/- What LeafText, NodeText and FoldText of package hash answer. -/
namespace Go.Proofs.YtnplhejopmoopaaDoor.HX
open Go.RowKit
set_option maxRecDepth 100000

theorem own_mono {w : World} {base base' : Nat} {t : TypeId} {s : Nat} {v : Value} {n : Nat} {xs : List Value} (h : w.ownsRow base t s v n xs) (hb : base' ≤ base) : w.ownsRow base' t s v n xs :=
  ⟨h.1, h.2.imp id fun ⟨g, c, cur, a, b, r⟩ => ⟨g, c, cur, a, Nat.le_trans hb b, r⟩⟩
theorem slice_whole (b : Nat) (w : World) : (Instr.sliceAt 27 (.pointer (some ⟨b, 0, none⟩)) none none none).run Tryd.prog w = .ok (.slice (some ⟨b, 0, none⟩) 32 32) w := by
  have hn : Tryd.prog.arrayLen 27 = 32 := by kernel_rfl
  rw [run_sliceAt_array_all w 27 ⟨b, 0, none⟩ (by kernel_rfl), hn]
  have he : Tryd.prog.elem 27 = 5 := by kernel_rfl
  obtain ⟨i8, hi, h8⟩ := Option.map_eq_some_iff.1 info_u8
  simp only [Prod.mk.injEq] at h8
  rw [he]
  simp [sizeOf, typeInfo, hi, h8.2.1, slicedAt, Addr.add]
/-- the bytes of an array, as a text. -/
theorem Has.text {w : World} {g : Nat} {f : Nat → Nat} {t : TypeId} (h : Has w g (UARR .u8 32 f) t) (hf : ∀ i, f i < 256) : Text w (some ⟨g, 0, none⟩) 32 ((List.range 32).map f) :=
  ⟨by simp, fun _ => ⟨g, 0, rfl, h.lt, fun i hi => by rw [Nat.zero_add, h.cell, UARR_get _ _ _ _ hi, List.getD_eq_getElem?_getD, List.getElem?_map, List.getElem?_range hi]; rfl⟩, fun x hx => by obtain ⟨i, _, rfl⟩ := List.mem_map.1 hx; exact hf i⟩
theorem two_parts {w : World} {l r : Nat → Nat} {g h : Nat} {t u : TypeId} (hl : ∀ i, l i < 256) (hr : ∀ i, r i < 256) (h1 : Has w g (UARR .u8 32 l) t) (h2 : Has w h (UARR .u8 32 r) u) : Parts (w.alloc (.cells #[.slice (some ⟨g, 0, none⟩) 32 32, .slice (some ⟨h, 0, none⟩) 32 32] 104)) (some ⟨w.heap.size, 0, none⟩) 2 [⟨some ⟨g, 0, none⟩, 32, 32, (List.range 32).map l⟩, ⟨some ⟨h, 0, none⟩, 32, 32, (List.range 32).map r⟩] :=
  ⟨rfl, fun _ => ⟨w.heap.size, 0, rfl, by simp, fun i p hp => by
    have hi : i < 2 := (List.getElem?_eq_some_iff.1 hp).1
    rw [World.cell?_alloc_at _ _ _ _ rfl]
    have h2 : i = 0 ∨ i = 1 := by omega
    rcases h2 with rfl | rfl <;> (simp at hp; subst hp; rfl)⟩, fun p hp => by
    simp only [List.mem_cons, List.not_mem_nil, or_false] at hp
    rcases hp with rfl | rfl
    · exact ⟨(h1.alloc _).text hl, Nat.le_refl _, fun x e => by simp only [Option.some.injEq] at e; rw [← e]; exact (h1.alloc _).lt⟩
    · exact ⟨(h2.alloc _).text hr, Nat.le_refl _, fun x e => by simp only [Option.some.injEq] at e; rw [← e]; exact (h2.alloc _).lt⟩⟩
theorem two_join (l r : Nat → Nat) (g h : Nat) : JOIN [⟨some ⟨g, 0, none⟩, 32, 32, (List.range 32).map l⟩, ⟨some ⟨h, 0, none⟩, 32, 32, (List.range 32).map r⟩] = (List.range 32).map l ++ (List.range 32).map r := by simp [JOIN]

theorem nodetext_ok (l r : Nat → Nat) (hl : ∀ i, l i < 256) (hr : ∀ i, r i < 256) (w : World) : Calls Tryd.prog 56 #[.agg (UARR .u8 32 l), .agg (UARR .u8 32 r)] w fun e w' =>
    ∃ a' c', e = .returned (.slice a' 65 c') ∧ w'.ownsRow w.heap.size 5 1 (.slice a' 65 c') 65 (CELLS (INTS (1 :: ((List.range 32).map l ++ (List.range 32).map r)))) ∧ Below w.heap.size w w' := by
  have hs32 := slice_whole
  have H : Aside ((∀ i, l i < 256) ∧ (∀ i, r i < 256)) := ⟨hl, hr⟩
  clear hl hr
  go_enter Tryd.func56, Tryd.ntmps56
  go_wp2_with fail
  have U : Aside (Below w.heap.size w ((w.alloc (.cells (UARR .u8 32 l) 27)).alloc (.cells (UARR .u8 32 r) 27)) ∧ Has ((w.alloc (.cells (UARR .u8 32 l) 27)).alloc (.cells (UARR .u8 32 r) 27)) w.heap.size (UARR .u8 32 l) 27 ∧ Has ((w.alloc (.cells (UARR .u8 32 l) 27)).alloc (.cells (UARR .u8 32 r) 27)) (w.heap.size + 1) (UARR .u8 32 r) 27) := ⟨((Below.refl _ _).alloc (Nat.le_refl _) _).alloc (by simp) _, (Has.new w _ _).alloc _, Has.at _ _ _ (by simp)⟩
  generalize (w.alloc (.cells (UARR .u8 32 l) 27)).alloc (.cells (UARR .u8 32 r) 27) = w1 at *
  generalize hh : w.heap.size + 1 = h at *
  obtain ⟨X, hX⟩ : ∃ X, X = (w1.alloc (.cells #[.slice (some ⟨w.heap.size, 0, none⟩) 32 32, .slice (some ⟨h, 0, none⟩) 32 32] 104)).drew := ⟨_, rfl⟩
  have hXs : X.heap.size = w1.heap.size + 1 := by rw [hX]; simp [World.drew]
  have ct : Calls Tryd.prog 68 #[.int .u8 1, .slice (some ⟨w1.heap.size, 0, none⟩) 2 2] X fun e w' => ∃ a' c', e = .returned (.slice a' 65 c') ∧ w'.ownsRow X.heap.size 5 1 (.slice a' 65 c') 65 (CELLS (INTS (1 :: ((List.range 32).map l ++ (List.range 32).map r)))) ∧ Below X.heap.size X w' := by
    have hh1 : Has w1.drew w.heap.size (UARR .u8 32 l) 27 := U.out.2.1
    have hh2 : Has w1.drew h (UARR .u8 32 r) 27 := U.out.2.2
    have k := text_ok 1 (by decide) _ 2 2 _ _ (two_parts H.out.1 H.out.2 hh1 hh2) (fun p hp => by simp only [List.mem_cons, List.not_mem_nil, or_false] at hp; rcases hp with rfl | rfl <;> (intro e; cases e)) (by rw [two_join]; simp) (by decide)
    have e65 : ((List.range 32).map l ++ (List.range 32).map r).length + 1 = 65 := by simp
    rw [two_join, e65] at k
    rw [hX]
    exact k
  have HX : Aside (Below w.heap.size w X ∧ w.heap.size ≤ X.heap.size) := ⟨by rw [hX]; exact (U.out.1.alloc U.out.1.size _).drew, by rw [hXs]; have := U.out.1.size; omega⟩
  rw [hX] at ct
  go_region_held3 (fun _ => True) (trivial) (first | (go_at_call 68; refine ct.mono ?_; rintro e w5 ⟨a5, c5, rfl, hown5, hb5⟩))
  rw [← hX] at hown5 hb5
  have S : Aside (w5.ownsRow w.heap.size 5 1 (.slice a5 65 c5) 65 (CELLS (INTS (1 :: ((List.range 32).map l ++ (List.range 32).map r)))) ∧ Below w.heap.size w w5) := ⟨own_mono hown5 HX.out.2, HX.out.1.trans (hb5.mono HX.out.2)⟩
  clear hown5 hb5 ct
  go_wp2
  go_ret
  exact ⟨a5, c5, rfl, S.out.1, S.out.2⟩

theorem foldtext_ok (l r : Nat → Nat) (hl : ∀ i, l i < 256) (hr : ∀ i, r i < 256) (w : World) : Calls Tryd.prog 84 #[.agg (UARR .u8 32 l), .agg (UARR .u8 32 r)] w fun e w' =>
    ∃ a' c', e = .returned (.slice a' 65 c') ∧ w'.ownsRow w.heap.size 5 1 (.slice a' 65 c') 65 (CELLS (INTS (2 :: ((List.range 32).map l ++ (List.range 32).map r)))) ∧ Below w.heap.size w w' := by
  have hs32 := slice_whole
  have H : Aside ((∀ i, l i < 256) ∧ (∀ i, r i < 256)) := ⟨hl, hr⟩
  clear hl hr
  go_enter Tryd.func84, Tryd.ntmps84
  go_wp2_with fail
  have U : Aside (Below w.heap.size w ((w.alloc (.cells (UARR .u8 32 l) 27)).alloc (.cells (UARR .u8 32 r) 27)) ∧ Has ((w.alloc (.cells (UARR .u8 32 l) 27)).alloc (.cells (UARR .u8 32 r) 27)) w.heap.size (UARR .u8 32 l) 27 ∧ Has ((w.alloc (.cells (UARR .u8 32 l) 27)).alloc (.cells (UARR .u8 32 r) 27)) (w.heap.size + 1) (UARR .u8 32 r) 27) := ⟨((Below.refl _ _).alloc (Nat.le_refl _) _).alloc (by simp) _, (Has.new w _ _).alloc _, Has.at _ _ _ (by simp)⟩
  generalize (w.alloc (.cells (UARR .u8 32 l) 27)).alloc (.cells (UARR .u8 32 r) 27) = w1 at *
  generalize hh : w.heap.size + 1 = h at *
  obtain ⟨X, hX⟩ : ∃ X, X = (w1.alloc (.cells #[.slice (some ⟨w.heap.size, 0, none⟩) 32 32, .slice (some ⟨h, 0, none⟩) 32 32] 104)).drew := ⟨_, rfl⟩
  have hXs : X.heap.size = w1.heap.size + 1 := by rw [hX]; simp [World.drew]
  have ct : Calls Tryd.prog 68 #[.int .u8 2, .slice (some ⟨w1.heap.size, 0, none⟩) 2 2] X fun e w' => ∃ a' c', e = .returned (.slice a' 65 c') ∧ w'.ownsRow X.heap.size 5 1 (.slice a' 65 c') 65 (CELLS (INTS (2 :: ((List.range 32).map l ++ (List.range 32).map r)))) ∧ Below X.heap.size X w' := by
    have hh1 : Has w1.drew w.heap.size (UARR .u8 32 l) 27 := U.out.2.1
    have hh2 : Has w1.drew h (UARR .u8 32 r) 27 := U.out.2.2
    have k := text_ok 2 (by decide) _ 2 2 _ _ (two_parts H.out.1 H.out.2 hh1 hh2) (fun p hp => by simp only [List.mem_cons, List.not_mem_nil, or_false] at hp; rcases hp with rfl | rfl <;> (intro e; cases e)) (by rw [two_join]; simp) (by decide)
    have e65 : ((List.range 32).map l ++ (List.range 32).map r).length + 1 = 65 := by simp
    rw [two_join, e65] at k
    rw [hX]
    exact k
  have HX : Aside (Below w.heap.size w X ∧ w.heap.size ≤ X.heap.size) := ⟨by rw [hX]; exact (U.out.1.alloc U.out.1.size _).drew, by rw [hXs]; have := U.out.1.size; omega⟩
  rw [hX] at ct
  go_region_held3 (fun _ => True) (trivial) (first | (go_at_call 68; refine ct.mono ?_; rintro e w5 ⟨a5, c5, rfl, hown5, hb5⟩))
  rw [← hX] at hown5 hb5
  have S : Aside (w5.ownsRow w.heap.size 5 1 (.slice a5 65 c5) 65 (CELLS (INTS (2 :: ((List.range 32).map l ++ (List.range 32).map r)))) ∧ Below w.heap.size w w5) := ⟨own_mono hown5 HX.out.2, HX.out.1.trans (hb5.mono HX.out.2)⟩
  clear hown5 hb5 ct
  go_wp2
  go_ret
  exact ⟨a5, c5, rfl, S.out.1, S.out.2⟩

end Go.Proofs.YtnplhejopmoopaaDoor.HX

/- What RootText of package hash answers. -/
namespace Go.Proofs.YtnplhejopmoopaaDoor.HX
open Go.RowKit
set_option maxRecDepth 100000

theorem eight_text (w : World) (n : Nat) : Text (w.alloc (.cells (BARR 8 (BYTE n 8)) 5)) (some ⟨w.heap.size, 0, none⟩) 8 (BE8 n) :=
  Text.of_bytes (row_bytes w 8 (BYTE n 8) (INTS (BE8 n)) (by rw [INTS, List.length_map, BE8_length]) (fun i hi => by
      rw [INTS_get]
      unfold BYTE BE8
      rw [List.getD_eq_getElem?_getD, List.getElem?_map, List.getElem?_range hi]
      rfl) (INTS_bounds (BE8_small n)))
theorem root_parts {w : World} {n : Nat} {r : Nat → Nat} {g h : Nat} {t : TypeId} (hr : ∀ i, r i < 256) (hg : g < w.heap.size) (h1 : Text w (some ⟨g, 0, none⟩) 8 (BE8 n)) (h2 : Has w h (UARR .u8 32 r) t) : Parts (w.alloc (.cells #[.slice (some ⟨g, 0, none⟩) 8 8, .slice (some ⟨h, 0, none⟩) 32 32] 104)) (some ⟨w.heap.size, 0, none⟩) 2 [⟨some ⟨g, 0, none⟩, 8, 8, BE8 n⟩, ⟨some ⟨h, 0, none⟩, 32, 32, (List.range 32).map r⟩] :=
  ⟨rfl, fun _ => ⟨w.heap.size, 0, rfl, by simp, fun i p hp => by
    have hi : i < 2 := (List.getElem?_eq_some_iff.1 hp).1
    rw [World.cell?_alloc_at _ _ _ _ rfl]
    have h2 : i = 0 ∨ i = 1 := by omega
    rcases h2 with rfl | rfl <;> (simp at hp; subst hp; rfl)⟩, fun p hp => by
    simp only [List.mem_cons, List.not_mem_nil, or_false] at hp
    rcases hp with rfl | rfl
    · exact ⟨h1.below ((Below.refl _ _).alloc (Nat.le_refl _) _), Nat.le_refl _, fun x e => by simp only [Option.some.injEq] at e; rw [← e]; simp; omega⟩
    · exact ⟨(h2.alloc _).text hr, Nat.le_refl _, fun x e => by simp only [Option.some.injEq] at e; rw [← e]; exact (h2.alloc _).lt⟩⟩
theorem root_join (n : Nat) (r : Nat → Nat) (g h : Nat) : JOIN [⟨some ⟨g, 0, none⟩, 8, 8, BE8 n⟩, ⟨some ⟨h, 0, none⟩, 32, 32, (List.range 32).map r⟩] = BE8 n ++ (List.range 32).map r := by simp [JOIN]
theorem roottext_ok (n : Nat) (hn : n < 2 ^ 64) (r : Nat → Nat) (hr : ∀ i, r i < 256) (w : World) : Calls Tryd.prog 72 #[.int .u64 (n : Int), .agg (UARR .u8 32 r)] w fun e w' =>
    ∃ a' c', e = .returned (.slice a' 41 c') ∧ w'.ownsRow w.heap.size 5 1 (.slice a' 41 c') 41 (CELLS (INTS (3 :: (BE8 n ++ (List.range 32).map r)))) ∧ Below w.heap.size w w' := by
  have hs32 := slice_whole
  have ci := ineight_ok n hn
  have H : Aside (∀ i, r i < 256) := hr
  clear hr hn
  go_enter Tryd.func72, Tryd.ntmps72
  go_wp2_with fail
  have U : Aside (Below w.heap.size w (w.alloc (.cells (UARR .u8 32 r) 27)) ∧ Has (w.alloc (.cells (UARR .u8 32 r) 27)) w.heap.size (UARR .u8 32 r) 27) := ⟨(Below.refl _ _).alloc (Nat.le_refl _) _, Has.new w _ _⟩
  generalize w.alloc (.cells (UARR .u8 32 r) 27) = w1 at *
  obtain ⟨X, hX⟩ : ∃ X, X = ((w1.drew.alloc (.cells (BARR 8 (BYTE n 8)) 5)).alloc (.cells #[.slice (some ⟨w1.heap.size, 0, none⟩) 8 8, .slice (some ⟨w.heap.size, 0, none⟩) 32 32] 104)) := ⟨_, rfl⟩
  have hXs : X.heap.size = w1.heap.size + 1 + 1 := by rw [hX]; simp
  have ct : Calls Tryd.prog 68 #[.int .u8 3, .slice (some ⟨w1.heap.size + 1, 0, none⟩) 2 2] X fun e w' => ∃ a' c', e = .returned (.slice a' 41 c') ∧ w'.ownsRow X.heap.size 5 1 (.slice a' 41 c') 41 (CELLS (INTS (3 :: (BE8 n ++ (List.range 32).map r)))) ∧ Below X.heap.size X w' := by
    have hh1 := eight_text w1.drew n
    have hh2 : Has (w1.drew.alloc (.cells (BARR 8 (BYTE n 8)) 5)) w.heap.size (UARR .u8 32 r) 27 := (show Has w1.drew w.heap.size (UARR .u8 32 r) 27 from U.out.2).alloc _
    have k := text_ok 3 (by decide) _ 2 2 _ _ (root_parts H.out (by simp) hh1 hh2) (fun p hp => by simp only [List.mem_cons, List.not_mem_nil, or_false] at hp; rcases hp with rfl | rfl <;> (intro e; cases e)) (by rw [root_join]; simp [BE8]) (by decide)
    have e41 : (BE8 n ++ (List.range 32).map r).length + 1 = 41 := by simp [BE8]
    rw [root_join, e41] at k
    have es : (w1.drew.alloc (.cells (BARR 8 (BYTE n 8)) 5)).heap.size = w1.heap.size + 1 := by simp
    rw [hX]
    rw [es] at k
    exact k
  have HX : Aside (Below w.heap.size w X ∧ w.heap.size ≤ X.heap.size) := ⟨by rw [hX]; exact (U.out.1.drew.alloc U.out.1.size _).alloc (by have := U.out.1.size; simp; omega) _, by rw [hXs]; have := U.out.1.size; omega⟩
  rw [hX] at ct
  go_region_held3 (fun _ => True) (trivial) (first | (go_at_call 83; refine (ci _).mono ?_; rintro e w4 ⟨rfl, rfl⟩) | (go_at_call 68; refine ct.mono ?_; rintro e w5 ⟨a5, c5, rfl, hown5, hb5⟩))
  rw [← hX] at hown5 hb5
  have S : Aside (w5.ownsRow w.heap.size 5 1 (.slice a5 41 c5) 41 (CELLS (INTS (3 :: (BE8 n ++ (List.range 32).map r)))) ∧ Below w.heap.size w w5) := ⟨own_mono hown5 HX.out.2, HX.out.1.trans (hb5.mono HX.out.2)⟩
  clear hown5 hb5 ct
  go_wp2
  go_ret
  exact ⟨a5, c5, rfl, S.out.1, S.out.2⟩
end Go.Proofs.YtnplhejopmoopaaDoor.HX

/- Two arrays held against each other. -/
namespace Go.Proofs.YtnplhejopmoopaaDoor.HX
open Go.RowKit
set_option maxRecDepth 100000

theorem Has.whole {w : World} {g : Nat} {F : Nat → Nat} {k : IntKind} {n : Nat} {t : TypeId} (h : Has w g (UARR k n F) t) : w.rangeAt g 0 (ULIST k n F) := fun j v hv => by
  have hj : j < n := by have := (List.getElem?_eq_some_iff.1 hv).1; rw [ULIST_length] at this; exact this
  rw [ULIST_get _ _ _ _ hj] at hv
  rw [Nat.zero_add, h.cell, UARR_get _ _ _ _ hj, hv]
theorem range_below {B : Nat} {w w' : World} {g o : Nat} {cs : List Value} (h : w.rangeAt g o cs) (hb : Below B w w') (hg : g < B) : w'.rangeAt g o cs := fun j v hv => (hb.cell (by exact hg)).trans (h j v hv)
theorem items_u8 (d n : Nat) (F G : Nat → Nat) (w : World) : ∀ is : List Nat, (∀ i ∈ is, i < n) → (Op.eqItems (d + 1) 5 1 (UARR .u8 n F) (UARR .u8 n G) is).run Tryd.prog w = .ok (is.all fun i => F i == G i) w
  | [], _ => by simp [Op.eqItems]
  | i :: is, h => by
    have hp : Tryd.prog.plainKey 5 = true := by kernel_rfl
    have hi : i < n := h i (by simp)
    have h1 := run_part_plain (P := Tryd.prog) w hp (UARR_get .u8 n F i hi)
    have h2 := run_part_plain (P := Tryd.prog) w hp (UARR_get .u8 n G i hi)
    have h3 := run_equalIn_int (P := Tryd.prog) w d 5 .u8 .u8 (F i : Nat) (G i : Nat) Tryd.underlying5
    have ih := items_u8 d n F G w is (fun j hj => h j (by simp [hj]))
    rw [Op.eqItems, Nat.mul_one]
    simp only [Sem.run_bind, h1, h2, h3, Result.andThen_ok]
    by_cases e : F i = G i
    · simp [e, ih]
    · have e2 : ((F i : Int) == (G i : Int)) = false := by simp; omega
      simp [e2, e]
theorem equal_hash (F G : Nat → Nat) (w : World) : (Op.equalIn 10000 27 (.agg (UARR .u8 32 F)) (.agg (UARR .u8 32 G))).run Tryd.prog w = .ok ((List.range 32).all fun i => F i == G i) w := by
  obtain ⟨i8, hi, _⟩ := Option.map_eq_some_iff.1 info_u8
  rw [run_equalIn_array (P := Tryd.prog) w 9999 (UARR .u8 32 F) (UARR .u8 32 G) Tryd.underlying27 hi]
  have hc : Tryd.prog.cellsOf 5 = 1 := by kernel_rfl
  rw [hc]
  exact items_u8 9998 32 F G w _ (fun i hi => by simpa using hi)
theorem equal_same (F : Nat → Nat) (w : World) : (Op.equalIn 10000 27 (.agg (UARR .u8 32 F)) (.agg (UARR .u8 32 F))).run Tryd.prog w = .ok true w := by
  rw [equal_hash]
  congr 1
  simp
end Go.Proofs.YtnplhejopmoopaaDoor.HX

/- The hashes of the texts: Leaf, Node, Fold and Root, of package hash alone. -/
namespace Go.Proofs.YtnplhejopmoopaaDoor.HX
open Go.RowKit
set_option maxRecDepth 100000

theorem own_text' {w : World} {base n c : Nat} {a : Option Addr} {l : List Nat} (h : w.ownsRow base 5 1 (.slice a n c) n (CELLS (INTS l))) (hl : Small8 l) : Text w a n l := Text.of_bytes (own_bytes_any h (INTS_bounds hl)).1
theorem own_nil' {w : World} {base n c s : Nat} {a : Option Addr} {t : TypeId} {xs : List Value} (h : w.ownsRow base t s (.slice a n c) n xs) : a = none → c = 0 := fun ha => by
  rcases h.2 with ⟨hv, _⟩ | ⟨g, cap, cur, hv, _⟩
  · simp at hv
    exact hv.2.2
  · subst ha
    simp at hv
theorem lone_parts {w : World} {a : Option Addr} {n c : Nat} {l : List Nat} (hA : Text w a n l) (hnc : n ≤ c) (hx : ∀ x, a = some x → x.block < w.heap.size) : Parts (w.alloc (.cells #[.slice a n c] 104)) (some ⟨w.heap.size, 0, none⟩) 1 [⟨a, n, c, l⟩] :=
  ⟨rfl, fun _ => ⟨w.heap.size, 0, rfl, by simp, fun i p hp => by
      have hi : i < 1 := (List.getElem?_eq_some_iff.1 hp).1
      obtain rfl : i = 0 := by omega
      simp only [List.getElem?_cons_zero, Option.some.injEq] at hp
      subst hp
      rw [World.cell?_alloc_at _ _ _ _ rfl]
      rfl⟩, fun p hp => by
      simp only [List.mem_singleton] at hp
      subst hp
      exact ⟨hA.below ((Below.refl _ _).alloc (Nat.le_refl _) _), hnc, fun x e => by have := hx x e; simp; omega⟩⟩
/-- a text of one's own, as the one part of a sum. -/
theorem own_parts {w : World} {B n c : Nat} {a : Option Addr} {l : List Nat} (h : w.ownsRow B 5 1 (.slice a n c) n (CELLS (INTS l))) (hs : Small8 l) : Parts (w.alloc (.cells #[.slice a n c] 104)) (some ⟨w.heap.size, 0, none⟩) 1 [⟨a, n, c, l⟩] ∧ (a = none → c = 0) := by
  refine ⟨lone_parts (own_text' h hs) ?_ (fun x e => ?_), own_nil' h⟩
  · exact (own_bytes_any h (INTS_bounds hs)).2
  · subst e
    rcases h.2 with ⟨e, _⟩ | ⟨g, c2, cur, e, _, hg, _⟩
    · simp at e
    · simp only [Value.slice.injEq, Option.some.injEq] at e
      rw [e.1]
      exact (Array.getElem?_eq_some_iff.1 hg).1
theorem join_one (a : Option Addr) (n c : Nat) (l : List Nat) : JOIN [⟨a, n, c, l⟩] = l := by simp [JOIN]
theorem small_cons' {x : Nat} {l : List Nat} (hx : x < 256) (h : Small8 l) : Small8 (x :: l) := fun y hy => by
  rcases List.mem_cons.1 hy with rfl | hy
  · exact hx
  · exact h y hy
theorem small_app' {l k : List Nat} (h1 : Small8 l) (h2 : Small8 k) : Small8 (l ++ k) := fun y hy => by
  rcases List.mem_append.1 hy with hy | hy
  · exact h1 y hy
  · exact h2 y hy
theorem small_map' {f : Nat → Nat} (h : ∀ i, f i < 256) : Small8 ((List.range 32).map f) := fun y hy => by
  obtain ⟨i, _, rfl⟩ := List.mem_map.1 hy
  exact h i
theorem small_be8 (n : Nat) : Small8 (BE8 n) := fun y hy => by
  obtain ⟨i, _, rfl⟩ := List.mem_map.1 hy
  exact Nat.mod_lt _ (by decide)
/-- the sum of one text of one's own, of package hash. -/
theorem lone_sum {w : World} (d : Int) {B n c : Nat} {a : Option Addr} {l : List Nat} (h : w.ownsRow B 5 1 (.slice a n c) n (CELLS (INTS l))) (hs : Small8 l) (hl : l.length < 5000) (hT : Tabled w) :
    Calls Tryd.prog 55 #[.int .i64 d, .slice (some ⟨w.heap.size, 0, none⟩) 1 1] (w.alloc (.cells #[.slice a n c] 104)) fun e w' => e = .returned (.agg (UARR .u8 32 (HASHOF d l))) ∧ Below (w.alloc (.cells #[.slice a n c] 104)).heap.size (w.alloc (.cells #[.slice a n c] 104)) w' := by
  have := sum_ok d _ 1 1 _ _ (own_parts h hs).1 (hT.below ((Below.refl _ _).alloc (Nat.le_refl _) _)) (by rw [join_one]; omega) (by decide)
  rw [join_one] at this
  exact this
theorem node_ok (d : Int) (l r : Nat → Nat) (hl : ∀ i, l i < 256) (hr : ∀ i, r i < 256) (w : World) (hT : Tabled w) : Calls Tryd.prog 43 #[.int .i64 d, .agg (UARR .u8 32 l), .agg (UARR .u8 32 r)] w fun e w' => e = .returned (.agg (UARR .u8 32 (HASHOF d (1 :: ((List.range 32).map l ++ (List.range 32).map r))))) ∧ Below w.heap.size w w' := by
  have hz := zero32
  have ct := fun W => nodetext_ok l r hl hr W
  have H : Aside ((∀ i, l i < 256) ∧ (∀ i, r i < 256) ∧ Tabled w) := ⟨hl, hr, hT⟩
  obtain ⟨W, zb, lb, rb, hW, hzb, hlb, hrb, R, h4, h5⟩ : ∃ W zb lb rb, W = ((w.alloc (.cells (UARR .u8 32 l) 27)).alloc (.cells (UARR .u8 32 r) 27)).alloc (.cells (UARR .u8 32 fun _ => 0) 27) ∧ zb = w.heap.size + 1 + 1 ∧ lb = w.heap.size ∧ rb = w.heap.size + 1 ∧ Aside (Has W zb (UARR .u8 32 fun _ => 0) 27 ∧ Below w.heap.size w W ∧ w.heap.size ≤ zb) ∧ W.rangeAt lb 0 (ULIST .u8 32 l) ∧ W.rangeAt rb 0 (ULIST .u8 32 r) := by
    refine ⟨_, _, _, _, rfl, rfl, rfl, rfl, ⟨Has.at _ _ _ (by simp), (((Below.refl _ _).alloc (Nat.le_refl _) _).alloc (by simp) _).alloc (by simp; omega) _, by omega⟩, (((Has.new w _ _).alloc _).alloc _).whole, ((Has.at _ _ _ (by simp)).alloc _).whole⟩
  clear hl hr hT
  go_enter Tryd.func43, Tryd.ntmps43
  go_wp2_with (first
    | (rw [← hW]; refine wpList_load_mid rfl 27 (.tmp 4) rfl w.heap.size 0 rfl (ULIST .u8 32 l) (.array 32 5) (by rw [← hlb]; exact h4) Tryd.underlying27 rfl (by rw [ULIST_length]; exact info_hash) ?_; rw [← UARR_list])
    | (refine wpList_load_mid rfl 27 (.tmp 5) rfl (w.heap.size + 1) 0 rfl (ULIST .u8 32 r) (.array 32 5) (by rw [← hrb]; exact h5) Tryd.underlying27 rfl (by rw [ULIST_length]; exact info_hash) ?_; rw [← UARR_list]))
  rw [← hzb]
  refine (ct _).mono ?_
  rintro e w2 ⟨a', c', rfl, hown, hb⟩
  rw [← hW] at hown hb
  clear ct h4 h5 hW hzb hlb hrb
  have S : Aside (Has w2 zb (UARR .u8 32 fun _ => 0) 27 ∧ Below w.heap.size w w2) := ⟨R.out.1.keep hb, R.out.2.1.trans (hb.mono R.out.2.1.size)⟩
  have cs := lone_sum d hown (small_cons' (by decide) (small_app' (small_map' H.out.1) (small_map' H.out.2.1))) (by simp) (H.out.2.2.below S.out.2)
  have Z : Aside (w.heap.size ≤ zb) := R.out.2.2
  clear hown hb R
  go_wp2_with fail
  refine cs.mono ?_
  rintro e w3 ⟨rfl, hb3⟩
  have hb4 : Below w2.heap.size w2 w3 := ((Below.refl _ _).alloc (Nat.le_refl _) _).trans (hb3.mono (by simp))
  have S2 : Aside (Has w3 zb (UARR .u8 32 fun _ => 0) 27 ∧ Below w.heap.size w w3) := ⟨S.out.1.keep hb4, S.out.2.trans (hb4.mono S.out.2.size)⟩
  clear cs hb3 hb4 S
  go_wp2_with (first
    | (refine wpList_store_row rfl 27 _ _ rfl _ _ rfl rfl _ _ S2.out.1 (info_HASH _) (by rw [UARR_size, UARR_size]) (UARR_one _ _ _) ?_))
  refine bodyPost_ret (v := .agg (UARR .u8 32 (HASHOF d (1 :: ((List.range 32).map l ++ (List.range 32).map r))))) ?_ rfl ⟨rfl, below_row S2.out.2 Z.out _⟩
  exact results_cell_row rfl _ _ zb 27 _ (0, 0) _ rfl (S2.out.1.row _) Tryd.underlying27 rfl (info_HASH _)
theorem fold_ok (d : Int) (l r : Nat → Nat) (hl : ∀ i, l i < 256) (hr : ∀ i, r i < 256) (w : World) (hT : Tabled w) : Calls Tryd.prog 73 #[.int .i64 d, .agg (UARR .u8 32 l), .agg (UARR .u8 32 r)] w fun e w' => e = .returned (.agg (UARR .u8 32 (HASHOF d (2 :: ((List.range 32).map l ++ (List.range 32).map r))))) ∧ Below w.heap.size w w' := by
  have hz := zero32
  have ct := fun W => foldtext_ok l r hl hr W
  have H : Aside ((∀ i, l i < 256) ∧ (∀ i, r i < 256) ∧ Tabled w) := ⟨hl, hr, hT⟩
  obtain ⟨W, zb, lb, rb, hW, hzb, hlb, hrb, R, h4, h5⟩ : ∃ W zb lb rb, W = ((w.alloc (.cells (UARR .u8 32 l) 27)).alloc (.cells (UARR .u8 32 r) 27)).alloc (.cells (UARR .u8 32 fun _ => 0) 27) ∧ zb = w.heap.size + 1 + 1 ∧ lb = w.heap.size ∧ rb = w.heap.size + 1 ∧ Aside (Has W zb (UARR .u8 32 fun _ => 0) 27 ∧ Below w.heap.size w W ∧ w.heap.size ≤ zb) ∧ W.rangeAt lb 0 (ULIST .u8 32 l) ∧ W.rangeAt rb 0 (ULIST .u8 32 r) := by
    refine ⟨_, _, _, _, rfl, rfl, rfl, rfl, ⟨Has.at _ _ _ (by simp), (((Below.refl _ _).alloc (Nat.le_refl _) _).alloc (by simp) _).alloc (by simp; omega) _, by omega⟩, (((Has.new w _ _).alloc _).alloc _).whole, ((Has.at _ _ _ (by simp)).alloc _).whole⟩
  clear hl hr hT
  go_enter Tryd.func73, Tryd.ntmps73
  go_wp2_with (first
    | (rw [← hW]; refine wpList_load_mid rfl 27 (.tmp 4) rfl w.heap.size 0 rfl (ULIST .u8 32 l) (.array 32 5) (by rw [← hlb]; exact h4) Tryd.underlying27 rfl (by rw [ULIST_length]; exact info_hash) ?_; rw [← UARR_list])
    | (refine wpList_load_mid rfl 27 (.tmp 5) rfl (w.heap.size + 1) 0 rfl (ULIST .u8 32 r) (.array 32 5) (by rw [← hrb]; exact h5) Tryd.underlying27 rfl (by rw [ULIST_length]; exact info_hash) ?_; rw [← UARR_list]))
  rw [← hzb]
  refine (ct _).mono ?_
  rintro e w2 ⟨a', c', rfl, hown, hb⟩
  rw [← hW] at hown hb
  clear ct h4 h5 hW hzb hlb hrb
  have S : Aside (Has w2 zb (UARR .u8 32 fun _ => 0) 27 ∧ Below w.heap.size w w2) := ⟨R.out.1.keep hb, R.out.2.1.trans (hb.mono R.out.2.1.size)⟩
  have cs := lone_sum d hown (small_cons' (by decide) (small_app' (small_map' H.out.1) (small_map' H.out.2.1))) (by simp) (H.out.2.2.below S.out.2)
  have Z : Aside (w.heap.size ≤ zb) := R.out.2.2
  clear hown hb R
  go_wp2_with fail
  refine cs.mono ?_
  rintro e w3 ⟨rfl, hb3⟩
  have hb4 : Below w2.heap.size w2 w3 := ((Below.refl _ _).alloc (Nat.le_refl _) _).trans (hb3.mono (by simp))
  have S2 : Aside (Has w3 zb (UARR .u8 32 fun _ => 0) 27 ∧ Below w.heap.size w w3) := ⟨S.out.1.keep hb4, S.out.2.trans (hb4.mono S.out.2.size)⟩
  clear cs hb3 hb4 S
  go_wp2_with (first
    | (refine wpList_store_row rfl 27 _ _ rfl _ _ rfl rfl _ _ S2.out.1 (info_HASH _) (by rw [UARR_size, UARR_size]) (UARR_one _ _ _) ?_))
  refine bodyPost_ret (v := .agg (UARR .u8 32 (HASHOF d (2 :: ((List.range 32).map l ++ (List.range 32).map r))))) ?_ rfl ⟨rfl, below_row S2.out.2 Z.out _⟩
  exact results_cell_row rfl _ _ zb 27 _ (0, 0) _ rfl (S2.out.1.row _) Tryd.underlying27 rfl (info_HASH _)
theorem root_ok (d : Int) (n : Nat) (hn : n < 2 ^ 64) (r : Nat → Nat) (hr : ∀ i, r i < 256) (w : World) (hT : Tabled w) : Calls Tryd.prog 61 #[.int .i64 d, .int .u64 (n : Int), .agg (UARR .u8 32 r)] w fun e w' => e = .returned (.agg (UARR .u8 32 (HASHOF d (3 :: (BE8 n ++ (List.range 32).map r))))) ∧ Below w.heap.size w w' := by
  have hz := zero32
  have ct := fun W => roottext_ok n hn r hr W
  have H : Aside ((∀ i, r i < 256) ∧ Tabled w) := ⟨hr, hT⟩
  obtain ⟨W, zb, rb, hW, hzb, hrb, R, h5⟩ : ∃ W zb rb, W = (w.alloc (.cells (UARR .u8 32 r) 27)).alloc (.cells (UARR .u8 32 fun _ => 0) 27) ∧ zb = w.heap.size + 1 ∧ rb = w.heap.size ∧ Aside (Has W zb (UARR .u8 32 fun _ => 0) 27 ∧ Below w.heap.size w W ∧ w.heap.size ≤ zb) ∧ W.rangeAt rb 0 (ULIST .u8 32 r) := by
    refine ⟨_, _, _, rfl, rfl, rfl, ⟨Has.at _ _ _ (by simp), ((Below.refl _ _).alloc (Nat.le_refl _) _).alloc (by simp) _, by omega⟩, ((Has.new w _ _).alloc _).whole⟩
  clear hn hr hT
  go_enter Tryd.func61, Tryd.ntmps61
  go_wp2_with (first
    | (rw [← hW]; refine wpList_load_mid rfl 27 (.tmp 5) rfl w.heap.size 0 rfl (ULIST .u8 32 r) (.array 32 5) (by rw [← hrb]; exact h5) Tryd.underlying27 rfl (by rw [ULIST_length]; exact info_hash) ?_; rw [← UARR_list]))
  rw [← hzb]
  refine (ct _).mono ?_
  rintro e w2 ⟨a', c', rfl, hown, hb⟩
  rw [← hW] at hown hb
  clear ct h5 hW hzb hrb
  have S : Aside (Has w2 zb (UARR .u8 32 fun _ => 0) 27 ∧ Below w.heap.size w w2) := ⟨R.out.1.keep hb, R.out.2.1.trans (hb.mono R.out.2.1.size)⟩
  have cs := lone_sum d hown (small_cons' (by decide) (small_app' (small_be8 n) (small_map' H.out.1))) (by simp [BE8]) (H.out.2.below S.out.2)
  have Z : Aside (w.heap.size ≤ zb) := R.out.2.2
  clear hown hb R
  go_wp2_with fail
  refine cs.mono ?_
  rintro e w3 ⟨rfl, hb3⟩
  have hb4 : Below w2.heap.size w2 w3 := ((Below.refl _ _).alloc (Nat.le_refl _) _).trans (hb3.mono (by simp))
  have S2 : Aside (Has w3 zb (UARR .u8 32 fun _ => 0) 27 ∧ Below w.heap.size w w3) := ⟨S.out.1.keep hb4, S.out.2.trans (hb4.mono S.out.2.size)⟩
  clear cs hb3 hb4 S
  go_wp2_with (first
    | (refine wpList_store_row rfl 27 _ _ rfl _ _ rfl rfl _ _ S2.out.1 (info_HASH _) (by rw [UARR_size, UARR_size]) (UARR_one _ _ _) ?_))
  refine bodyPost_ret (v := .agg (UARR .u8 32 (HASHOF d (3 :: (BE8 n ++ (List.range 32).map r))))) ?_ rfl ⟨rfl, below_row S2.out.2 Z.out _⟩
  exact results_cell_row rfl _ _ zb 27 _ (0, 0) _ rfl (S2.out.1.row _) Tryd.underlying27 rfl (info_HASH _)
end Go.Proofs.YtnplhejopmoopaaDoor.HX
