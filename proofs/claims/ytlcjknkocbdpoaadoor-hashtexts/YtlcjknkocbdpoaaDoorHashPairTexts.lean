/- What LeafText, NodeText and FoldText of package hash answer. -/
import Derived.Test.YtlcjknkocbdpoaaDoorHashText
namespace Go.Proofs.YtlcjknkocbdpoaaDoor
open Go.RowKit
set_option maxRecDepth 100000

theorem own_mono {w : World} {base base' : Nat} {t : TypeId} {s : Nat} {v : Value} {n : Nat} {xs : List Value} (h : w.ownsRow base t s v n xs) (hb : base' ≤ base) : w.ownsRow base' t s v n xs :=
  ⟨h.1, h.2.imp id fun ⟨g, c, cur, a, b, r⟩ => ⟨g, c, cur, a, Nat.le_trans hb b, r⟩⟩
theorem slice_whole (b : Nat) (w : World) : (Instr.sliceAt 24 (.pointer (some ⟨b, 0, none⟩)) none none none).run Tryd.prog w = .ok (.slice (some ⟨b, 0, none⟩) 32 32) w := by
  have hn : Tryd.prog.arrayLen 24 = 32 := by kernel_rfl
  rw [run_sliceAt_array_all w 24 ⟨b, 0, none⟩ (by kernel_rfl), hn]
  have he : Tryd.prog.elem 24 = 5 := by kernel_rfl
  obtain ⟨i8, hi, h8⟩ := Option.map_eq_some_iff.1 info_u8
  simp only [Prod.mk.injEq] at h8
  rw [he]
  simp [sizeOf, typeInfo, hi, h8.2.1, slicedAt, Addr.add]
/-- the bytes of an array, as a text. -/
theorem Has.text {w : World} {g : Nat} {f : Nat → Nat} {t : TypeId} (h : Has w g (UARR .u8 32 f) t) (hf : ∀ i, f i < 256) : Text w (some ⟨g, 0, none⟩) 32 ((List.range 32).map f) :=
  ⟨by simp, fun _ => ⟨g, 0, rfl, h.lt, fun i hi => by rw [Nat.zero_add, h.cell, UARR_get _ _ _ _ hi, List.getD_eq_getElem?_getD, List.getElem?_map, List.getElem?_range hi]; rfl⟩, fun x hx => by obtain ⟨i, _, rfl⟩ := List.mem_map.1 hx; exact hf i⟩
theorem leaftext_ok (a : Option Addr) (n c : Nat) (l : List Nat) (w : World) (hA : Text w a n l) (hc : a = none → c = 0) (hn : n < 4000) (hnc : n ≤ c) (hx : ∀ x, a = some x → x.block < w.heap.size) : Calls Tryd.prog 18 #[.slice a n c] w fun e w' =>
    ∃ a' c', e = .returned (.slice a' (n + 1) c') ∧ w'.ownsRow w.heap.size 5 1 (.slice a' (n + 1) c') (n + 1) (CELLS (INTS (0 :: l))) ∧ Below w.heap.size w w' := by
  have hb0 : Below w.heap.size w (w.alloc (.cells #[.slice a n c] 22)) := (Below.refl _ _).alloc (Nat.le_refl _) _
  have hP : Parts (w.alloc (.cells #[.slice a n c] 22)) (some ⟨w.heap.size, 0, none⟩) 1 [⟨a, n, c, l⟩] :=
    ⟨rfl, fun _ => ⟨w.heap.size, 0, rfl, by simp, fun i p hp => by
      have hi : i < 1 := (List.getElem?_eq_some_iff.1 hp).1
      obtain rfl : i = 0 := by omega
      simp only [List.getElem?_cons_zero, Option.some.injEq] at hp
      subst hp
      rw [World.cell?_alloc_at _ _ _ _ rfl]
      rfl⟩, fun p hp => by
      simp only [List.mem_singleton] at hp
      subst hp
      exact ⟨hA.below hb0, hnc, fun x e => by have := hx x e; simp; omega⟩⟩
  have ct := text_ok 0 (by decide) (some ⟨w.heap.size, 0, none⟩) 1 1 [⟨a, n, c, l⟩] _ hP (fun p hp => by simp only [List.mem_singleton] at hp; subst hp; exact hc) (by simp [JOIN, hA.1]; omega) (by decide)
  have hJ : JOIN [⟨a, n, c, l⟩] = l := by simp [JOIN]
  rw [hJ, hA.1] at ct
  have B : Aside (Below w.heap.size w (w.alloc (.cells #[.slice a n c] 22))) := hb0
  clear hA hc hn hnc hx hJ hP hb0
  go_enter Tryd.func18, Tryd.ntmps18
  go_wp2_with fail
  refine ct.mono ?_
  rintro e w5 ⟨a5, c5, rfl, hown5, hb5⟩
  have S : Aside (w5.ownsRow w.heap.size 5 1 (.slice a5 (n + 1) c5) (n + 1) (CELLS (INTS (0 :: l))) ∧ Below w.heap.size w w5) := ⟨own_mono hown5 (by simp), B.out.trans (hb5.mono (by simp))⟩
  clear hown5 hb5 ct B
  go_wp2
  go_ret
  exact ⟨a5, c5, rfl, S.out.1, S.out.2⟩

theorem two_parts {w : World} {l r : Nat → Nat} {g h : Nat} {t u : TypeId} (hl : ∀ i, l i < 256) (hr : ∀ i, r i < 256) (h1 : Has w g (UARR .u8 32 l) t) (h2 : Has w h (UARR .u8 32 r) u) : Parts (w.alloc (.cells #[.slice (some ⟨g, 0, none⟩) 32 32, .slice (some ⟨h, 0, none⟩) 32 32] 22)) (some ⟨w.heap.size, 0, none⟩) 2 [⟨some ⟨g, 0, none⟩, 32, 32, (List.range 32).map l⟩, ⟨some ⟨h, 0, none⟩, 32, 32, (List.range 32).map r⟩] :=
  ⟨rfl, fun _ => ⟨w.heap.size, 0, rfl, by simp, fun i p hp => by
    have hi : i < 2 := (List.getElem?_eq_some_iff.1 hp).1
    rw [World.cell?_alloc_at _ _ _ _ rfl]
    have h2 : i = 0 ∨ i = 1 := by omega
    rcases h2 with rfl | rfl <;> (simp at hp; subst hp; rfl)⟩, fun p hp => by
    simp only [List.mem_cons, List.not_mem_nil, or_false] at hp
    rcases hp with rfl | rfl
    · exact ⟨(h1.alloc _).text hl, Nat.le_refl _, fun x e => by simp only [Option.some.injEq] at e; rw [← e]; exact (h1.alloc _).lt⟩
    · exact ⟨(h2.alloc _).text hr, Nat.le_refl _, fun x e => by simp only [Option.some.injEq] at e; rw [← e]; exact (h2.alloc _).lt⟩⟩
theorem two_join (l r : Nat → Nat) (g h : Nat) : JOIN [⟨some ⟨g, 0, none⟩, 32, 32, (List.range 32).map l⟩, ⟨some ⟨h, 0, none⟩, 32, 32, (List.range 32).map r⟩] = (List.range 32).map l ++ (List.range 32).map r := by simp [JOIN]

theorem nodetext_ok (l r : Nat → Nat) (hl : ∀ i, l i < 256) (hr : ∀ i, r i < 256) (w : World) : Calls Tryd.prog 19 #[.agg (UARR .u8 32 l), .agg (UARR .u8 32 r)] w fun e w' =>
    ∃ a' c', e = .returned (.slice a' 65 c') ∧ w'.ownsRow w.heap.size 5 1 (.slice a' 65 c') 65 (CELLS (INTS (1 :: ((List.range 32).map l ++ (List.range 32).map r)))) ∧ Below w.heap.size w w' := by
  have hs32 := slice_whole
  have H : Aside ((∀ i, l i < 256) ∧ (∀ i, r i < 256)) := ⟨hl, hr⟩
  clear hl hr
  go_enter Tryd.func19, Tryd.ntmps19
  go_wp2_with fail
  have U : Aside (Below w.heap.size w ((w.alloc (.cells (UARR .u8 32 l) 24)).alloc (.cells (UARR .u8 32 r) 24)) ∧ Has ((w.alloc (.cells (UARR .u8 32 l) 24)).alloc (.cells (UARR .u8 32 r) 24)) w.heap.size (UARR .u8 32 l) 24 ∧ Has ((w.alloc (.cells (UARR .u8 32 l) 24)).alloc (.cells (UARR .u8 32 r) 24)) (w.heap.size + 1) (UARR .u8 32 r) 24) := ⟨((Below.refl _ _).alloc (Nat.le_refl _) _).alloc (by simp) _, (Has.new w _ _).alloc _, Has.at _ _ _ (by simp)⟩
  generalize (w.alloc (.cells (UARR .u8 32 l) 24)).alloc (.cells (UARR .u8 32 r) 24) = w1 at *
  generalize hh : w.heap.size + 1 = h at *
  obtain ⟨X, hX⟩ : ∃ X, X = (w1.alloc (.cells #[.slice (some ⟨w.heap.size, 0, none⟩) 32 32, .slice (some ⟨h, 0, none⟩) 32 32] 22)).drew := ⟨_, rfl⟩
  have hXs : X.heap.size = w1.heap.size + 1 := by rw [hX]; simp [World.drew]
  have ct : Calls Tryd.prog 52 #[.int .u8 1, .slice (some ⟨w1.heap.size, 0, none⟩) 2 2] X fun e w' => ∃ a' c', e = .returned (.slice a' 65 c') ∧ w'.ownsRow X.heap.size 5 1 (.slice a' 65 c') 65 (CELLS (INTS (1 :: ((List.range 32).map l ++ (List.range 32).map r)))) ∧ Below X.heap.size X w' := by
    have hh1 : Has w1.drew w.heap.size (UARR .u8 32 l) 24 := U.out.2.1
    have hh2 : Has w1.drew h (UARR .u8 32 r) 24 := U.out.2.2
    have k := text_ok 1 (by decide) _ 2 2 _ _ (two_parts H.out.1 H.out.2 hh1 hh2) (fun p hp => by simp only [List.mem_cons, List.not_mem_nil, or_false] at hp; rcases hp with rfl | rfl <;> (intro e; cases e)) (by rw [two_join]; simp) (by decide)
    have e65 : ((List.range 32).map l ++ (List.range 32).map r).length + 1 = 65 := by simp
    rw [two_join, e65] at k
    rw [hX]
    exact k
  have HX : Aside (Below w.heap.size w X ∧ w.heap.size ≤ X.heap.size) := ⟨by rw [hX]; exact (U.out.1.alloc U.out.1.size _).drew, by rw [hXs]; have := U.out.1.size; omega⟩
  rw [hX] at ct
  go_region_held3 (fun _ => True) (trivial) (first | (go_at_call 52; refine ct.mono ?_; rintro e w5 ⟨a5, c5, rfl, hown5, hb5⟩))
  rw [← hX] at hown5 hb5
  have S : Aside (w5.ownsRow w.heap.size 5 1 (.slice a5 65 c5) 65 (CELLS (INTS (1 :: ((List.range 32).map l ++ (List.range 32).map r)))) ∧ Below w.heap.size w w5) := ⟨own_mono hown5 HX.out.2, HX.out.1.trans (hb5.mono HX.out.2)⟩
  clear hown5 hb5 ct
  go_wp2
  go_ret
  exact ⟨a5, c5, rfl, S.out.1, S.out.2⟩

theorem foldtext_ok (l r : Nat → Nat) (hl : ∀ i, l i < 256) (hr : ∀ i, r i < 256) (w : World) : Calls Tryd.prog 20 #[.agg (UARR .u8 32 l), .agg (UARR .u8 32 r)] w fun e w' =>
    ∃ a' c', e = .returned (.slice a' 65 c') ∧ w'.ownsRow w.heap.size 5 1 (.slice a' 65 c') 65 (CELLS (INTS (2 :: ((List.range 32).map l ++ (List.range 32).map r)))) ∧ Below w.heap.size w w' := by
  have hs32 := slice_whole
  have H : Aside ((∀ i, l i < 256) ∧ (∀ i, r i < 256)) := ⟨hl, hr⟩
  clear hl hr
  go_enter Tryd.func20, Tryd.ntmps20
  go_wp2_with fail
  have U : Aside (Below w.heap.size w ((w.alloc (.cells (UARR .u8 32 l) 24)).alloc (.cells (UARR .u8 32 r) 24)) ∧ Has ((w.alloc (.cells (UARR .u8 32 l) 24)).alloc (.cells (UARR .u8 32 r) 24)) w.heap.size (UARR .u8 32 l) 24 ∧ Has ((w.alloc (.cells (UARR .u8 32 l) 24)).alloc (.cells (UARR .u8 32 r) 24)) (w.heap.size + 1) (UARR .u8 32 r) 24) := ⟨((Below.refl _ _).alloc (Nat.le_refl _) _).alloc (by simp) _, (Has.new w _ _).alloc _, Has.at _ _ _ (by simp)⟩
  generalize (w.alloc (.cells (UARR .u8 32 l) 24)).alloc (.cells (UARR .u8 32 r) 24) = w1 at *
  generalize hh : w.heap.size + 1 = h at *
  obtain ⟨X, hX⟩ : ∃ X, X = (w1.alloc (.cells #[.slice (some ⟨w.heap.size, 0, none⟩) 32 32, .slice (some ⟨h, 0, none⟩) 32 32] 22)).drew := ⟨_, rfl⟩
  have hXs : X.heap.size = w1.heap.size + 1 := by rw [hX]; simp [World.drew]
  have ct : Calls Tryd.prog 52 #[.int .u8 2, .slice (some ⟨w1.heap.size, 0, none⟩) 2 2] X fun e w' => ∃ a' c', e = .returned (.slice a' 65 c') ∧ w'.ownsRow X.heap.size 5 1 (.slice a' 65 c') 65 (CELLS (INTS (2 :: ((List.range 32).map l ++ (List.range 32).map r)))) ∧ Below X.heap.size X w' := by
    have hh1 : Has w1.drew w.heap.size (UARR .u8 32 l) 24 := U.out.2.1
    have hh2 : Has w1.drew h (UARR .u8 32 r) 24 := U.out.2.2
    have k := text_ok 2 (by decide) _ 2 2 _ _ (two_parts H.out.1 H.out.2 hh1 hh2) (fun p hp => by simp only [List.mem_cons, List.not_mem_nil, or_false] at hp; rcases hp with rfl | rfl <;> (intro e; cases e)) (by rw [two_join]; simp) (by decide)
    have e65 : ((List.range 32).map l ++ (List.range 32).map r).length + 1 = 65 := by simp
    rw [two_join, e65] at k
    rw [hX]
    exact k
  have HX : Aside (Below w.heap.size w X ∧ w.heap.size ≤ X.heap.size) := ⟨by rw [hX]; exact (U.out.1.alloc U.out.1.size _).drew, by rw [hXs]; have := U.out.1.size; omega⟩
  rw [hX] at ct
  go_region_held3 (fun _ => True) (trivial) (first | (go_at_call 52; refine ct.mono ?_; rintro e w5 ⟨a5, c5, rfl, hown5, hb5⟩))
  rw [← hX] at hown5 hb5
  have S : Aside (w5.ownsRow w.heap.size 5 1 (.slice a5 65 c5) 65 (CELLS (INTS (2 :: ((List.range 32).map l ++ (List.range 32).map r)))) ∧ Below w.heap.size w w5) := ⟨own_mono hown5 HX.out.2, HX.out.1.trans (hb5.mono HX.out.2)⟩
  clear hown5 hb5 ct
  go_wp2
  go_ret
  exact ⟨a5, c5, rfl, S.out.1, S.out.2⟩

end Go.Proofs.YtlcjknkocbdpoaaDoor
