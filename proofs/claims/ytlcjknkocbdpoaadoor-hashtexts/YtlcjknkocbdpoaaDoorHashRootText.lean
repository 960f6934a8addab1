/- What RootText of package hash answers. -/
import Derived.Test.YtlcjknkocbdpoaaDoorHashPairTexts
namespace Go.Proofs.YtlcjknkocbdpoaaDoor
open Go.RowKit
set_option maxRecDepth 100000

theorem eight_text (w : World) (n : Nat) : Text (w.alloc (.cells (BARR 8 (BYTE n 8)) 5)) (some ⟨w.heap.size, 0, none⟩) 8 (BE8 n) :=
  Text.of_bytes (row_bytes w 8 (BYTE n 8) (INTS (BE8 n)) (by rw [INTS, List.length_map, BE8_length]) (fun i hi => by
      rw [INTS_get]
      unfold BYTE BE8
      rw [List.getD_eq_getElem?_getD, List.getElem?_map, List.getElem?_range hi]
      rfl) (INTS_bounds (BE8_small n)))
theorem root_parts {w : World} {n : Nat} {r : Nat → Nat} {g h : Nat} {t : TypeId} (hr : ∀ i, r i < 256) (hg : g < w.heap.size) (h1 : Text w (some ⟨g, 0, none⟩) 8 (BE8 n)) (h2 : Has w h (UARR .u8 32 r) t) : Parts (w.alloc (.cells #[.slice (some ⟨g, 0, none⟩) 8 8, .slice (some ⟨h, 0, none⟩) 32 32] 22)) (some ⟨w.heap.size, 0, none⟩) 2 [⟨some ⟨g, 0, none⟩, 8, 8, BE8 n⟩, ⟨some ⟨h, 0, none⟩, 32, 32, (List.range 32).map r⟩] :=
  ⟨rfl, fun _ => ⟨w.heap.size, 0, rfl, by simp, fun i p hp => by
    have hi : i < 2 := (List.getElem?_eq_some_iff.1 hp).1
    rw [World.cell?_alloc_at _ _ _ _ rfl]
    have h2 : i = 0 ∨ i = 1 := by omega
    rcases h2 with rfl | rfl <;> (simp at hp; subst hp; rfl)⟩, fun p hp => by
    simp only [List.mem_cons, List.not_mem_nil, or_false] at hp
    rcases hp with rfl | rfl
    · exact ⟨h1.below ((Below.refl _ _).alloc (Nat.le_refl _) _), Nat.le_refl _, fun x e => by simp only [Option.some.injEq] at e; rw [← e]; simp; omega⟩
    · exact ⟨(h2.alloc _).text hr, Nat.le_refl _, fun x e => by simp only [Option.some.injEq] at e; rw [← e]; exact (h2.alloc _).lt⟩⟩
theorem root_join (n : Nat) (r : Nat → Nat) (g h : Nat) : JOIN [⟨some ⟨g, 0, none⟩, 8, 8, BE8 n⟩, ⟨some ⟨h, 0, none⟩, 32, 32, (List.range 32).map r⟩] = BE8 n ++ (List.range 32).map r := by simp [JOIN]
theorem roottext_ok (n : Nat) (hn : n < 2 ^ 64) (r : Nat → Nat) (hr : ∀ i, r i < 256) (w : World) : Calls Tryd.prog 21 #[.int .u64 (n : Int), .agg (UARR .u8 32 r)] w fun e w' =>
    ∃ a' c', e = .returned (.slice a' 41 c') ∧ w'.ownsRow w.heap.size 5 1 (.slice a' 41 c') 41 (CELLS (INTS (3 :: (BE8 n ++ (List.range 32).map r)))) ∧ Below w.heap.size w w' := by
  have hs32 := slice_whole
  have ci := ineight_ok n hn
  have H : Aside (∀ i, r i < 256) := hr
  clear hr hn
  go_enter Tryd.func21, Tryd.ntmps21
  go_wp2_with fail
  have U : Aside (Below w.heap.size w (w.alloc (.cells (UARR .u8 32 r) 24)) ∧ Has (w.alloc (.cells (UARR .u8 32 r) 24)) w.heap.size (UARR .u8 32 r) 24) := ⟨(Below.refl _ _).alloc (Nat.le_refl _) _, Has.new w _ _⟩
  generalize w.alloc (.cells (UARR .u8 32 r) 24) = w1 at *
  obtain ⟨X, hX⟩ : ∃ X, X = ((w1.drew.alloc (.cells (BARR 8 (BYTE n 8)) 5)).alloc (.cells #[.slice (some ⟨w1.heap.size, 0, none⟩) 8 8, .slice (some ⟨w.heap.size, 0, none⟩) 32 32] 22)) := ⟨_, rfl⟩
  have hXs : X.heap.size = w1.heap.size + 1 + 1 := by rw [hX]; simp
  have ct : Calls Tryd.prog 52 #[.int .u8 3, .slice (some ⟨w1.heap.size + 1, 0, none⟩) 2 2] X fun e w' => ∃ a' c', e = .returned (.slice a' 41 c') ∧ w'.ownsRow X.heap.size 5 1 (.slice a' 41 c') 41 (CELLS (INTS (3 :: (BE8 n ++ (List.range 32).map r)))) ∧ Below X.heap.size X w' := by
    have hh1 := eight_text w1.drew n
    have hh2 : Has (w1.drew.alloc (.cells (BARR 8 (BYTE n 8)) 5)) w.heap.size (UARR .u8 32 r) 24 := (show Has w1.drew w.heap.size (UARR .u8 32 r) 24 from U.out.2).alloc _
    have k := text_ok 3 (by decide) _ 2 2 _ _ (root_parts H.out (by simp) hh1 hh2) (fun p hp => by simp only [List.mem_cons, List.not_mem_nil, or_false] at hp; rcases hp with rfl | rfl <;> (intro e; cases e)) (by rw [root_join]; simp [BE8]) (by decide)
    have e41 : (BE8 n ++ (List.range 32).map r).length + 1 = 41 := by simp [BE8]
    rw [root_join, e41] at k
    have es : (w1.drew.alloc (.cells (BARR 8 (BYTE n 8)) 5)).heap.size = w1.heap.size + 1 := by simp
    rw [hX]
    rw [es] at k
    exact k
  have HX : Aside (Below w.heap.size w X ∧ w.heap.size ≤ X.heap.size) := ⟨by rw [hX]; exact (U.out.1.drew.alloc U.out.1.size _).alloc (by have := U.out.1.size; simp; omega) _, by rw [hXs]; have := U.out.1.size; omega⟩
  rw [hX] at ct
  go_region_held3 (fun _ => True) (trivial) (first | (go_at_call 53; refine (ci _).mono ?_; rintro e w4 ⟨rfl, rfl⟩) | (go_at_call 52; refine ct.mono ?_; rintro e w5 ⟨a5, c5, rfl, hown5, hb5⟩))
  rw [← hX] at hown5 hb5
  have S : Aside (w5.ownsRow w.heap.size 5 1 (.slice a5 41 c5) 41 (CELLS (INTS (3 :: (BE8 n ++ (List.range 32).map r)))) ∧ Below w.heap.size w w5) := ⟨own_mono hown5 HX.out.2, HX.out.1.trans (hb5.mono HX.out.2)⟩
  clear hown5 hb5 ct
  go_wp2
  go_ret
  exact ⟨a5, c5, rfl, S.out.1, S.out.2⟩
end Go.Proofs.YtlcjknkocbdpoaaDoor
