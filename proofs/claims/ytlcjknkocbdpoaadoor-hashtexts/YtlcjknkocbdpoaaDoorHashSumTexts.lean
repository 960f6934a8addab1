/- The hashes of the texts: Leaf, Node, Fold and Root, of package hash and of the document. -/
import Derived.Test.YtlcjknkocbdpoaaDoorHashRefTexts
import Derived.Test.YtlcjknkocbdpoaaDoorHashSame
import Derived.Test.YtlcjknkocbdpoaaDoorHashEq
namespace Go.Proofs.YtlcjknkocbdpoaaDoor
open Go.RowKit
set_option maxRecDepth 100000

theorem lone_parts {w : World} {a : Option Addr} {n c : Nat} {l : List Nat} (hA : Text w a n l) (hnc : n ≤ c) (hx : ∀ x, a = some x → x.block < w.heap.size) : Parts (w.alloc (.cells #[.slice a n c] 22)) (some ⟨w.heap.size, 0, none⟩) 1 [⟨a, n, c, l⟩] :=
  ⟨rfl, fun _ => ⟨w.heap.size, 0, rfl, by simp, fun i p hp => by
      have hi : i < 1 := (List.getElem?_eq_some_iff.1 hp).1
      obtain rfl : i = 0 := by omega
      simp only [List.getElem?_cons_zero, Option.some.injEq] at hp
      subst hp
      rw [World.cell?_alloc_at _ _ _ _ rfl]
      rfl⟩, fun p hp => by
      simp only [List.mem_singleton] at hp
      subst hp
      exact ⟨hA.below ((Below.refl _ _).alloc (Nat.le_refl _) _), hnc, fun x e => by have := hx x e; simp; omega⟩⟩
/-- a text of one's own, as the one part of a sum. -/
theorem own_parts {w : World} {B n c : Nat} {a : Option Addr} {l : List Nat} (h : w.ownsRow B 5 1 (.slice a n c) n (CELLS (INTS l))) (hs : Small8 l) : Parts (w.alloc (.cells #[.slice a n c] 22)) (some ⟨w.heap.size, 0, none⟩) 1 [⟨a, n, c, l⟩] ∧ (a = none → c = 0) := by
  refine ⟨lone_parts (own_text h hs) ?_ (fun x e => ?_), own_nil h⟩
  · exact (own_bytes_any h (INTS_bounds hs)).2
  · subst e
    rcases h.2 with ⟨e, _⟩ | ⟨g, c2, cur, e, _, hg, _⟩
    · simp at e
    · simp only [Value.slice.injEq, Option.some.injEq] at e
      rw [e.1]
      exact (Array.getElem?_eq_some_iff.1 hg).1
theorem join_one (a : Option Addr) (n c : Nat) (l : List Nat) : JOIN [⟨a, n, c, l⟩] = l := by simp [JOIN]
theorem small_cons' {x : Nat} {l : List Nat} (hx : x < 256) (h : Small8 l) : Small8 (x :: l) := fun y hy => by
  rcases List.mem_cons.1 hy with rfl | hy
  · exact hx
  · exact h y hy
theorem small_app' {l k : List Nat} (h1 : Small8 l) (h2 : Small8 k) : Small8 (l ++ k) := fun y hy => by
  rcases List.mem_append.1 hy with hy | hy
  · exact h1 y hy
  · exact h2 y hy
theorem small_map' {f : Nat → Nat} (h : ∀ i, f i < 256) : Small8 ((List.range 32).map f) := fun y hy => by
  obtain ⟨i, _, rfl⟩ := List.mem_map.1 hy
  exact h i
theorem small_be8 (n : Nat) : Small8 (BE8 n) := fun y hy => by
  obtain ⟨i, _, rfl⟩ := List.mem_map.1 hy
  exact Nat.mod_lt _ (by decide)
/-- the sum of one text of one's own, of package hash. -/
theorem lone_sum {w : World} (d : Int) {B n c : Nat} {a : Option Addr} {l : List Nat} (h : w.ownsRow B 5 1 (.slice a n c) n (CELLS (INTS l))) (hs : Small8 l) (hl : l.length < 5000) (hT : Tabled w) :
    Calls Tryd.prog 38 #[.int .i64 d, .slice (some ⟨w.heap.size, 0, none⟩) 1 1] (w.alloc (.cells #[.slice a n c] 22)) fun e w' => e = .returned (.agg (UARR .u8 32 (HASHOF d l))) ∧ Below (w.alloc (.cells #[.slice a n c] 22)).heap.size (w.alloc (.cells #[.slice a n c] 22)) w' := by
  have := sum_ok d _ 1 1 _ _ (own_parts h hs).1 (hT.below ((Below.refl _ _).alloc (Nat.le_refl _) _)) (by rw [join_one]; omega) (by decide)
  rw [join_one] at this
  exact this
/-- the same, of the document. -/
theorem lone_refsum {w : World} (d : Int) {B n c : Nat} {a : Option Addr} {l : List Nat} (h : w.ownsRow B 5 1 (.slice a n c) n (CELLS (INTS l))) (hs : Small8 l) (hl : l.length < 5000) :
    Calls Tryd.prog 33 #[.int .i64 d, .slice (some ⟨w.heap.size, 0, none⟩) 1 1] (w.alloc (.cells #[.slice a n c] 22)) fun e w' => e = .returned (.agg (UARR .u8 32 (HASHOF d l))) ∧ Below (w.alloc (.cells #[.slice a n c] 22)).heap.size (w.alloc (.cells #[.slice a n c] 22)) w' := by
  have := refsum_ok d _ 1 1 _ _ (own_parts h hs).1.zero (fun p hp => by simp only [List.mem_singleton] at hp; subst hp; exact (own_parts h hs).2) (by rw [join_one]; omega) (by decide)
  rw [join_one] at this
  exact this
theorem leaf_ok (d : Int) (a : Option Addr) (n c : Nat) (l : List Nat) (w : World) (hA : Text w a n l) (hc : a = none → c = 0) (hn : n < 4000) (hnc : n ≤ c) (hx : ∀ x, a = some x → x.block < w.heap.size) (hT : Tabled w) : Calls Tryd.prog 10 #[.int .i64 d, .slice a n c] w fun e w' => e = .returned (.agg (UARR .u8 32 (HASHOF d (0 :: l)))) ∧ Below w.heap.size w w' := by
  have hz := zero32
  have ct := leaftext_ok a n c l (w.alloc (.cells (UARR .u8 32 fun _ => 0) 24)) (hA.below ((Below.refl _ _).alloc (Nat.le_refl _) _)) hc hn hnc (fun x e => by have := hx x e; simp; omega)
  have H : Aside (Small8 l ∧ l.length < 4000 ∧ Tabled w) := ⟨hA.2.2, by rw [hA.1]; exact hn, hT⟩
  obtain ⟨W, zb, hW, hzb, R⟩ : ∃ W zb, W = w.alloc (.cells (UARR .u8 32 fun _ => 0) 24) ∧ zb = w.heap.size ∧ Aside (Has W zb (UARR .u8 32 fun _ => 0) 24 ∧ Below w.heap.size w W ∧ w.heap.size ≤ zb) := ⟨_, _, rfl, rfl, Has.new _ _ _, (Below.refl _ _).alloc (Nat.le_refl _) _, Nat.le_refl _⟩
  clear hA hc hn hnc hx hT
  go_enter Tryd.func10, Tryd.ntmps10
  go_wp2_with fail
  refine ct.mono ?_
  rintro e w2 ⟨a', c', rfl, hown, hb⟩
  rw [← hW] at hown hb
  rw [← hzb]
  clear ct hW hzb
  have S : Aside (Has w2 zb (UARR .u8 32 fun _ => 0) 24 ∧ Below w.heap.size w w2) := ⟨R.out.1.keep hb, R.out.2.1.trans (hb.mono R.out.2.1.size)⟩
  have cs := lone_sum d hown (small_cons' (by decide) H.out.1) (by have := H.out.2.1; simp; omega) (H.out.2.2.below S.out.2)
  have Z : Aside (w.heap.size ≤ zb) := R.out.2.2
  clear hown hb R
  go_wp2_with fail
  refine cs.mono ?_
  rintro e w3 ⟨rfl, hb3⟩
  have hb4 : Below w2.heap.size w2 w3 := ((Below.refl _ _).alloc (Nat.le_refl _) _).trans (hb3.mono (by simp))
  have S2 : Aside (Has w3 zb (UARR .u8 32 fun _ => 0) 24 ∧ Below w.heap.size w w3) := ⟨S.out.1.keep hb4, S.out.2.trans (hb4.mono S.out.2.size)⟩
  clear cs hb3 hb4 S
  go_wp2_with (first
    | (refine wpList_store_row rfl 24 _ _ rfl _ _ rfl rfl _ _ S2.out.1 (info_HASH _) (by rw [UARR_size, UARR_size]) (UARR_one _ _ _) ?_))
  refine bodyPost_ret (v := .agg (UARR .u8 32 (HASHOF d (0 :: l)))) ?_ rfl ⟨rfl, below_row S2.out.2 Z.out _⟩
  exact results_cell_row rfl _ _ zb 24 _ (0, 0) _ rfl (S2.out.1.row _) Tryd.underlying24 rfl (info_HASH _)
theorem node_ok (d : Int) (l r : Nat → Nat) (hl : ∀ i, l i < 256) (hr : ∀ i, r i < 256) (w : World) (hT : Tabled w) : Calls Tryd.prog 12 #[.int .i64 d, .agg (UARR .u8 32 l), .agg (UARR .u8 32 r)] w fun e w' => e = .returned (.agg (UARR .u8 32 (HASHOF d (1 :: ((List.range 32).map l ++ (List.range 32).map r))))) ∧ Below w.heap.size w w' := by
  have hz := zero32
  have ct := fun W => nodetext_ok l r hl hr W
  have H : Aside ((∀ i, l i < 256) ∧ (∀ i, r i < 256) ∧ Tabled w) := ⟨hl, hr, hT⟩
  obtain ⟨W, zb, lb, rb, hW, hzb, hlb, hrb, R, h4, h5⟩ : ∃ W zb lb rb, W = ((w.alloc (.cells (UARR .u8 32 l) 24)).alloc (.cells (UARR .u8 32 r) 24)).alloc (.cells (UARR .u8 32 fun _ => 0) 24) ∧ zb = w.heap.size + 1 + 1 ∧ lb = w.heap.size ∧ rb = w.heap.size + 1 ∧ Aside (Has W zb (UARR .u8 32 fun _ => 0) 24 ∧ Below w.heap.size w W ∧ w.heap.size ≤ zb) ∧ W.rangeAt lb 0 (ULIST .u8 32 l) ∧ W.rangeAt rb 0 (ULIST .u8 32 r) := by
    refine ⟨_, _, _, _, rfl, rfl, rfl, rfl, ⟨Has.at _ _ _ (by simp), (((Below.refl _ _).alloc (Nat.le_refl _) _).alloc (by simp) _).alloc (by simp; omega) _, by omega⟩, (((Has.new w _ _).alloc _).alloc _).whole, ((Has.at _ _ _ (by simp)).alloc _).whole⟩
  clear hl hr hT
  go_enter Tryd.func12, Tryd.ntmps12
  go_wp2_with (first
    | (rw [← hW]; refine wpList_load_mid rfl 24 (.tmp 4) rfl w.heap.size 0 rfl (ULIST .u8 32 l) (.array 32 5) (by rw [← hlb]; exact h4) Tryd.underlying24 rfl (by rw [ULIST_length]; exact info_hash) ?_; rw [← UARR_list])
    | (refine wpList_load_mid rfl 24 (.tmp 5) rfl (w.heap.size + 1) 0 rfl (ULIST .u8 32 r) (.array 32 5) (by rw [← hrb]; exact h5) Tryd.underlying24 rfl (by rw [ULIST_length]; exact info_hash) ?_; rw [← UARR_list]))
  rw [← hzb]
  refine (ct _).mono ?_
  rintro e w2 ⟨a', c', rfl, hown, hb⟩
  rw [← hW] at hown hb
  clear ct h4 h5 hW hzb hlb hrb
  have S : Aside (Has w2 zb (UARR .u8 32 fun _ => 0) 24 ∧ Below w.heap.size w w2) := ⟨R.out.1.keep hb, R.out.2.1.trans (hb.mono R.out.2.1.size)⟩
  have cs := lone_sum d hown (small_cons' (by decide) (small_app' (small_map' H.out.1) (small_map' H.out.2.1))) (by simp) (H.out.2.2.below S.out.2)
  have Z : Aside (w.heap.size ≤ zb) := R.out.2.2
  clear hown hb R
  go_wp2_with fail
  refine cs.mono ?_
  rintro e w3 ⟨rfl, hb3⟩
  have hb4 : Below w2.heap.size w2 w3 := ((Below.refl _ _).alloc (Nat.le_refl _) _).trans (hb3.mono (by simp))
  have S2 : Aside (Has w3 zb (UARR .u8 32 fun _ => 0) 24 ∧ Below w.heap.size w w3) := ⟨S.out.1.keep hb4, S.out.2.trans (hb4.mono S.out.2.size)⟩
  clear cs hb3 hb4 S
  go_wp2_with (first
    | (refine wpList_store_row rfl 24 _ _ rfl _ _ rfl rfl _ _ S2.out.1 (info_HASH _) (by rw [UARR_size, UARR_size]) (UARR_one _ _ _) ?_))
  refine bodyPost_ret (v := .agg (UARR .u8 32 (HASHOF d (1 :: ((List.range 32).map l ++ (List.range 32).map r))))) ?_ rfl ⟨rfl, below_row S2.out.2 Z.out _⟩
  exact results_cell_row rfl _ _ zb 24 _ (0, 0) _ rfl (S2.out.1.row _) Tryd.underlying24 rfl (info_HASH _)
theorem fold_ok (d : Int) (l r : Nat → Nat) (hl : ∀ i, l i < 256) (hr : ∀ i, r i < 256) (w : World) (hT : Tabled w) : Calls Tryd.prog 14 #[.int .i64 d, .agg (UARR .u8 32 l), .agg (UARR .u8 32 r)] w fun e w' => e = .returned (.agg (UARR .u8 32 (HASHOF d (2 :: ((List.range 32).map l ++ (List.range 32).map r))))) ∧ Below w.heap.size w w' := by
  have hz := zero32
  have ct := fun W => foldtext_ok l r hl hr W
  have H : Aside ((∀ i, l i < 256) ∧ (∀ i, r i < 256) ∧ Tabled w) := ⟨hl, hr, hT⟩
  obtain ⟨W, zb, lb, rb, hW, hzb, hlb, hrb, R, h4, h5⟩ : ∃ W zb lb rb, W = ((w.alloc (.cells (UARR .u8 32 l) 24)).alloc (.cells (UARR .u8 32 r) 24)).alloc (.cells (UARR .u8 32 fun _ => 0) 24) ∧ zb = w.heap.size + 1 + 1 ∧ lb = w.heap.size ∧ rb = w.heap.size + 1 ∧ Aside (Has W zb (UARR .u8 32 fun _ => 0) 24 ∧ Below w.heap.size w W ∧ w.heap.size ≤ zb) ∧ W.rangeAt lb 0 (ULIST .u8 32 l) ∧ W.rangeAt rb 0 (ULIST .u8 32 r) := by
    refine ⟨_, _, _, _, rfl, rfl, rfl, rfl, ⟨Has.at _ _ _ (by simp), (((Below.refl _ _).alloc (Nat.le_refl _) _).alloc (by simp) _).alloc (by simp; omega) _, by omega⟩, (((Has.new w _ _).alloc _).alloc _).whole, ((Has.at _ _ _ (by simp)).alloc _).whole⟩
  clear hl hr hT
  go_enter Tryd.func14, Tryd.ntmps14
  go_wp2_with (first
    | (rw [← hW]; refine wpList_load_mid rfl 24 (.tmp 4) rfl w.heap.size 0 rfl (ULIST .u8 32 l) (.array 32 5) (by rw [← hlb]; exact h4) Tryd.underlying24 rfl (by rw [ULIST_length]; exact info_hash) ?_; rw [← UARR_list])
    | (refine wpList_load_mid rfl 24 (.tmp 5) rfl (w.heap.size + 1) 0 rfl (ULIST .u8 32 r) (.array 32 5) (by rw [← hrb]; exact h5) Tryd.underlying24 rfl (by rw [ULIST_length]; exact info_hash) ?_; rw [← UARR_list]))
  rw [← hzb]
  refine (ct _).mono ?_
  rintro e w2 ⟨a', c', rfl, hown, hb⟩
  rw [← hW] at hown hb
  clear ct h4 h5 hW hzb hlb hrb
  have S : Aside (Has w2 zb (UARR .u8 32 fun _ => 0) 24 ∧ Below w.heap.size w w2) := ⟨R.out.1.keep hb, R.out.2.1.trans (hb.mono R.out.2.1.size)⟩
  have cs := lone_sum d hown (small_cons' (by decide) (small_app' (small_map' H.out.1) (small_map' H.out.2.1))) (by simp) (H.out.2.2.below S.out.2)
  have Z : Aside (w.heap.size ≤ zb) := R.out.2.2
  clear hown hb R
  go_wp2_with fail
  refine cs.mono ?_
  rintro e w3 ⟨rfl, hb3⟩
  have hb4 : Below w2.heap.size w2 w3 := ((Below.refl _ _).alloc (Nat.le_refl _) _).trans (hb3.mono (by simp))
  have S2 : Aside (Has w3 zb (UARR .u8 32 fun _ => 0) 24 ∧ Below w.heap.size w w3) := ⟨S.out.1.keep hb4, S.out.2.trans (hb4.mono S.out.2.size)⟩
  clear cs hb3 hb4 S
  go_wp2_with (first
    | (refine wpList_store_row rfl 24 _ _ rfl _ _ rfl rfl _ _ S2.out.1 (info_HASH _) (by rw [UARR_size, UARR_size]) (UARR_one _ _ _) ?_))
  refine bodyPost_ret (v := .agg (UARR .u8 32 (HASHOF d (2 :: ((List.range 32).map l ++ (List.range 32).map r))))) ?_ rfl ⟨rfl, below_row S2.out.2 Z.out _⟩
  exact results_cell_row rfl _ _ zb 24 _ (0, 0) _ rfl (S2.out.1.row _) Tryd.underlying24 rfl (info_HASH _)
theorem root_ok (d : Int) (n : Nat) (hn : n < 2 ^ 64) (r : Nat → Nat) (hr : ∀ i, r i < 256) (w : World) (hT : Tabled w) : Calls Tryd.prog 16 #[.int .i64 d, .int .u64 (n : Int), .agg (UARR .u8 32 r)] w fun e w' => e = .returned (.agg (UARR .u8 32 (HASHOF d (3 :: (BE8 n ++ (List.range 32).map r))))) ∧ Below w.heap.size w w' := by
  have hz := zero32
  have ct := fun W => roottext_ok n hn r hr W
  have H : Aside ((∀ i, r i < 256) ∧ Tabled w) := ⟨hr, hT⟩
  obtain ⟨W, zb, rb, hW, hzb, hrb, R, h5⟩ : ∃ W zb rb, W = (w.alloc (.cells (UARR .u8 32 r) 24)).alloc (.cells (UARR .u8 32 fun _ => 0) 24) ∧ zb = w.heap.size + 1 ∧ rb = w.heap.size ∧ Aside (Has W zb (UARR .u8 32 fun _ => 0) 24 ∧ Below w.heap.size w W ∧ w.heap.size ≤ zb) ∧ W.rangeAt rb 0 (ULIST .u8 32 r) := by
    refine ⟨_, _, _, rfl, rfl, rfl, ⟨Has.at _ _ _ (by simp), ((Below.refl _ _).alloc (Nat.le_refl _) _).alloc (by simp) _, by omega⟩, ((Has.new w _ _).alloc _).whole⟩
  clear hn hr hT
  go_enter Tryd.func16, Tryd.ntmps16
  go_wp2_with (first
    | (rw [← hW]; refine wpList_load_mid rfl 24 (.tmp 5) rfl w.heap.size 0 rfl (ULIST .u8 32 r) (.array 32 5) (by rw [← hrb]; exact h5) Tryd.underlying24 rfl (by rw [ULIST_length]; exact info_hash) ?_; rw [← UARR_list]))
  rw [← hzb]
  refine (ct _).mono ?_
  rintro e w2 ⟨a', c', rfl, hown, hb⟩
  rw [← hW] at hown hb
  clear ct h5 hW hzb hrb
  have S : Aside (Has w2 zb (UARR .u8 32 fun _ => 0) 24 ∧ Below w.heap.size w w2) := ⟨R.out.1.keep hb, R.out.2.1.trans (hb.mono R.out.2.1.size)⟩
  have cs := lone_sum d hown (small_cons' (by decide) (small_app' (small_be8 n) (small_map' H.out.1))) (by simp [BE8]) (H.out.2.below S.out.2)
  have Z : Aside (w.heap.size ≤ zb) := R.out.2.2
  clear hown hb R
  go_wp2_with fail
  refine cs.mono ?_
  rintro e w3 ⟨rfl, hb3⟩
  have hb4 : Below w2.heap.size w2 w3 := ((Below.refl _ _).alloc (Nat.le_refl _) _).trans (hb3.mono (by simp))
  have S2 : Aside (Has w3 zb (UARR .u8 32 fun _ => 0) 24 ∧ Below w.heap.size w w3) := ⟨S.out.1.keep hb4, S.out.2.trans (hb4.mono S.out.2.size)⟩
  clear cs hb3 hb4 S
  go_wp2_with (first
    | (refine wpList_store_row rfl 24 _ _ rfl _ _ rfl rfl _ _ S2.out.1 (info_HASH _) (by rw [UARR_size, UARR_size]) (UARR_one _ _ _) ?_))
  refine bodyPost_ret (v := .agg (UARR .u8 32 (HASHOF d (3 :: (BE8 n ++ (List.range 32).map r))))) ?_ rfl ⟨rfl, below_row S2.out.2 Z.out _⟩
  exact results_cell_row rfl _ _ zb 24 _ (0, 0) _ rfl (S2.out.1.row _) Tryd.underlying24 rfl (info_HASH _)
theorem refleaf_ok (d : Int) (a : Option Addr) (n c : Nat) (l : List Nat) (w : World) (hA : Text w a n l) (hc : a = none → c = 0) (hn : n < 4000) : Calls Tryd.prog 11 #[.int .i64 d, .slice a n c] w fun e w' => e = .returned (.agg (UARR .u8 32 (HASHOF d (0 :: l)))) ∧ Below w.heap.size w w' := by
  have hz := zero32
  have ct := refleaftext_ok a n c l (w.alloc (.cells (UARR .u8 32 fun _ => 0) 24)) (hA.below ((Below.refl _ _).alloc (Nat.le_refl _) _)) hc hn
  have H : Aside (Small8 l ∧ l.length < 4000) := ⟨hA.2.2, by rw [hA.1]; exact hn⟩
  obtain ⟨W, zb, hW, hzb, R⟩ : ∃ W zb, W = w.alloc (.cells (UARR .u8 32 fun _ => 0) 24) ∧ zb = w.heap.size ∧ Aside (Has W zb (UARR .u8 32 fun _ => 0) 24 ∧ Below w.heap.size w W ∧ w.heap.size ≤ zb) := ⟨_, _, rfl, rfl, Has.new _ _ _, (Below.refl _ _).alloc (Nat.le_refl _) _, Nat.le_refl _⟩
  clear hA hc hn
  go_enter Tryd.func11, Tryd.ntmps11
  go_wp2_with fail
  refine ct.mono ?_
  rintro e w2 ⟨a', c', rfl, hown, hb⟩
  rw [← hW] at hown hb
  rw [← hzb]
  clear ct hW hzb
  have S : Aside (Has w2 zb (UARR .u8 32 fun _ => 0) 24 ∧ Below w.heap.size w w2) := ⟨R.out.1.keep hb, R.out.2.1.trans (hb.mono R.out.2.1.size)⟩
  have cs := lone_refsum d hown (small_cons' (by decide) H.out.1) (by have := H.out.2; simp; omega)
  have Z : Aside (w.heap.size ≤ zb) := R.out.2.2
  clear hown hb R
  go_wp2_with fail
  refine cs.mono ?_
  rintro e w3 ⟨rfl, hb3⟩
  have hb4 : Below w2.heap.size w2 w3 := ((Below.refl _ _).alloc (Nat.le_refl _) _).trans (hb3.mono (by simp))
  have S2 : Aside (Has w3 zb (UARR .u8 32 fun _ => 0) 24 ∧ Below w.heap.size w w3) := ⟨S.out.1.keep hb4, S.out.2.trans (hb4.mono S.out.2.size)⟩
  clear cs hb3 hb4 S
  go_wp2_with (first
    | (refine wpList_store_row rfl 24 _ _ rfl _ _ rfl rfl _ _ S2.out.1 (info_HASH _) (by rw [UARR_size, UARR_size]) (UARR_one _ _ _) ?_))
  refine bodyPost_ret (v := .agg (UARR .u8 32 (HASHOF d (0 :: l)))) ?_ rfl ⟨rfl, below_row S2.out.2 Z.out _⟩
  exact results_cell_row rfl _ _ zb 24 _ (0, 0) _ rfl (S2.out.1.row _) Tryd.underlying24 rfl (info_HASH _)
theorem refnode_ok (d : Int) (l r : Nat → Nat) (hl : ∀ i, l i < 256) (hr : ∀ i, r i < 256) (w : World) : Calls Tryd.prog 13 #[.int .i64 d, .agg (UARR .u8 32 l), .agg (UARR .u8 32 r)] w fun e w' => e = .returned (.agg (UARR .u8 32 (HASHOF d (1 :: ((List.range 32).map l ++ (List.range 32).map r))))) ∧ Below w.heap.size w w' := by
  have hz := zero32
  have ct := fun W => refnodetext_ok l r hl hr W
  have H : Aside ((∀ i, l i < 256) ∧ (∀ i, r i < 256)) := ⟨hl, hr⟩
  obtain ⟨W, zb, lb, rb, hW, hzb, hlb, hrb, R, h4, h5⟩ : ∃ W zb lb rb, W = ((w.alloc (.cells (UARR .u8 32 l) 24)).alloc (.cells (UARR .u8 32 r) 24)).alloc (.cells (UARR .u8 32 fun _ => 0) 24) ∧ zb = w.heap.size + 1 + 1 ∧ lb = w.heap.size ∧ rb = w.heap.size + 1 ∧ Aside (Has W zb (UARR .u8 32 fun _ => 0) 24 ∧ Below w.heap.size w W ∧ w.heap.size ≤ zb) ∧ W.rangeAt lb 0 (ULIST .u8 32 l) ∧ W.rangeAt rb 0 (ULIST .u8 32 r) := by
    refine ⟨_, _, _, _, rfl, rfl, rfl, rfl, ⟨Has.at _ _ _ (by simp), (((Below.refl _ _).alloc (Nat.le_refl _) _).alloc (by simp) _).alloc (by simp; omega) _, by omega⟩, (((Has.new w _ _).alloc _).alloc _).whole, ((Has.at _ _ _ (by simp)).alloc _).whole⟩
  clear hl hr
  go_enter Tryd.func13, Tryd.ntmps13
  go_wp2_with (first
    | (rw [← hW]; refine wpList_load_mid rfl 24 (.tmp 4) rfl w.heap.size 0 rfl (ULIST .u8 32 l) (.array 32 5) (by rw [← hlb]; exact h4) Tryd.underlying24 rfl (by rw [ULIST_length]; exact info_hash) ?_; rw [← UARR_list])
    | (refine wpList_load_mid rfl 24 (.tmp 5) rfl (w.heap.size + 1) 0 rfl (ULIST .u8 32 r) (.array 32 5) (by rw [← hrb]; exact h5) Tryd.underlying24 rfl (by rw [ULIST_length]; exact info_hash) ?_; rw [← UARR_list]))
  rw [← hzb]
  refine (ct _).mono ?_
  rintro e w2 ⟨a', c', rfl, hown, hb⟩
  rw [← hW] at hown hb
  clear ct h4 h5 hW hzb hlb hrb
  have S : Aside (Has w2 zb (UARR .u8 32 fun _ => 0) 24 ∧ Below w.heap.size w w2) := ⟨R.out.1.keep hb, R.out.2.1.trans (hb.mono R.out.2.1.size)⟩
  have cs := lone_refsum d hown (small_cons' (by decide) (small_app' (small_map' H.out.1) (small_map' H.out.2))) (by simp)
  have Z : Aside (w.heap.size ≤ zb) := R.out.2.2
  clear hown hb R
  go_wp2_with fail
  refine cs.mono ?_
  rintro e w3 ⟨rfl, hb3⟩
  have hb4 : Below w2.heap.size w2 w3 := ((Below.refl _ _).alloc (Nat.le_refl _) _).trans (hb3.mono (by simp))
  have S2 : Aside (Has w3 zb (UARR .u8 32 fun _ => 0) 24 ∧ Below w.heap.size w w3) := ⟨S.out.1.keep hb4, S.out.2.trans (hb4.mono S.out.2.size)⟩
  clear cs hb3 hb4 S
  go_wp2_with (first
    | (refine wpList_store_row rfl 24 _ _ rfl _ _ rfl rfl _ _ S2.out.1 (info_HASH _) (by rw [UARR_size, UARR_size]) (UARR_one _ _ _) ?_))
  refine bodyPost_ret (v := .agg (UARR .u8 32 (HASHOF d (1 :: ((List.range 32).map l ++ (List.range 32).map r))))) ?_ rfl ⟨rfl, below_row S2.out.2 Z.out _⟩
  exact results_cell_row rfl _ _ zb 24 _ (0, 0) _ rfl (S2.out.1.row _) Tryd.underlying24 rfl (info_HASH _)
theorem reffold_ok (d : Int) (l r : Nat → Nat) (hl : ∀ i, l i < 256) (hr : ∀ i, r i < 256) (w : World) : Calls Tryd.prog 15 #[.int .i64 d, .agg (UARR .u8 32 l), .agg (UARR .u8 32 r)] w fun e w' => e = .returned (.agg (UARR .u8 32 (HASHOF d (2 :: ((List.range 32).map l ++ (List.range 32).map r))))) ∧ Below w.heap.size w w' := by
  have hz := zero32
  have ct := fun W => reffoldtext_ok l r hl hr W
  have H : Aside ((∀ i, l i < 256) ∧ (∀ i, r i < 256)) := ⟨hl, hr⟩
  obtain ⟨W, zb, lb, rb, hW, hzb, hlb, hrb, R, h4, h5⟩ : ∃ W zb lb rb, W = ((w.alloc (.cells (UARR .u8 32 l) 24)).alloc (.cells (UARR .u8 32 r) 24)).alloc (.cells (UARR .u8 32 fun _ => 0) 24) ∧ zb = w.heap.size + 1 + 1 ∧ lb = w.heap.size ∧ rb = w.heap.size + 1 ∧ Aside (Has W zb (UARR .u8 32 fun _ => 0) 24 ∧ Below w.heap.size w W ∧ w.heap.size ≤ zb) ∧ W.rangeAt lb 0 (ULIST .u8 32 l) ∧ W.rangeAt rb 0 (ULIST .u8 32 r) := by
    refine ⟨_, _, _, _, rfl, rfl, rfl, rfl, ⟨Has.at _ _ _ (by simp), (((Below.refl _ _).alloc (Nat.le_refl _) _).alloc (by simp) _).alloc (by simp; omega) _, by omega⟩, (((Has.new w _ _).alloc _).alloc _).whole, ((Has.at _ _ _ (by simp)).alloc _).whole⟩
  clear hl hr
  go_enter Tryd.func15, Tryd.ntmps15
  go_wp2_with (first
    | (rw [← hW]; refine wpList_load_mid rfl 24 (.tmp 4) rfl w.heap.size 0 rfl (ULIST .u8 32 l) (.array 32 5) (by rw [← hlb]; exact h4) Tryd.underlying24 rfl (by rw [ULIST_length]; exact info_hash) ?_; rw [← UARR_list])
    | (refine wpList_load_mid rfl 24 (.tmp 5) rfl (w.heap.size + 1) 0 rfl (ULIST .u8 32 r) (.array 32 5) (by rw [← hrb]; exact h5) Tryd.underlying24 rfl (by rw [ULIST_length]; exact info_hash) ?_; rw [← UARR_list]))
  rw [← hzb]
  refine (ct _).mono ?_
  rintro e w2 ⟨a', c', rfl, hown, hb⟩
  rw [← hW] at hown hb
  clear ct h4 h5 hW hzb hlb hrb
  have S : Aside (Has w2 zb (UARR .u8 32 fun _ => 0) 24 ∧ Below w.heap.size w w2) := ⟨R.out.1.keep hb, R.out.2.1.trans (hb.mono R.out.2.1.size)⟩
  have cs := lone_refsum d hown (small_cons' (by decide) (small_app' (small_map' H.out.1) (small_map' H.out.2))) (by simp)
  have Z : Aside (w.heap.size ≤ zb) := R.out.2.2
  clear hown hb R
  go_wp2_with fail
  refine cs.mono ?_
  rintro e w3 ⟨rfl, hb3⟩
  have hb4 : Below w2.heap.size w2 w3 := ((Below.refl _ _).alloc (Nat.le_refl _) _).trans (hb3.mono (by simp))
  have S2 : Aside (Has w3 zb (UARR .u8 32 fun _ => 0) 24 ∧ Below w.heap.size w w3) := ⟨S.out.1.keep hb4, S.out.2.trans (hb4.mono S.out.2.size)⟩
  clear cs hb3 hb4 S
  go_wp2_with (first
    | (refine wpList_store_row rfl 24 _ _ rfl _ _ rfl rfl _ _ S2.out.1 (info_HASH _) (by rw [UARR_size, UARR_size]) (UARR_one _ _ _) ?_))
  refine bodyPost_ret (v := .agg (UARR .u8 32 (HASHOF d (2 :: ((List.range 32).map l ++ (List.range 32).map r))))) ?_ rfl ⟨rfl, below_row S2.out.2 Z.out _⟩
  exact results_cell_row rfl _ _ zb 24 _ (0, 0) _ rfl (S2.out.1.row _) Tryd.underlying24 rfl (info_HASH _)
theorem refroot_ok (d : Int) (n : Nat) (hn : n < 2 ^ 64) (r : Nat → Nat) (hr : ∀ i, r i < 256) (w : World) : Calls Tryd.prog 17 #[.int .i64 d, .int .u64 (n : Int), .agg (UARR .u8 32 r)] w fun e w' => e = .returned (.agg (UARR .u8 32 (HASHOF d (3 :: (BE8 n ++ (List.range 32).map r))))) ∧ Below w.heap.size w w' := by
  have hz := zero32
  have ct := fun W => refroottext_ok n hn r hr W
  have H : Aside ((∀ i, r i < 256)) := hr
  obtain ⟨W, zb, rb, hW, hzb, hrb, R, h5⟩ : ∃ W zb rb, W = (w.alloc (.cells (UARR .u8 32 r) 24)).alloc (.cells (UARR .u8 32 fun _ => 0) 24) ∧ zb = w.heap.size + 1 ∧ rb = w.heap.size ∧ Aside (Has W zb (UARR .u8 32 fun _ => 0) 24 ∧ Below w.heap.size w W ∧ w.heap.size ≤ zb) ∧ W.rangeAt rb 0 (ULIST .u8 32 r) := by
    refine ⟨_, _, _, rfl, rfl, rfl, ⟨Has.at _ _ _ (by simp), ((Below.refl _ _).alloc (Nat.le_refl _) _).alloc (by simp) _, by omega⟩, ((Has.new w _ _).alloc _).whole⟩
  clear hn hr
  go_enter Tryd.func17, Tryd.ntmps17
  go_wp2_with (first
    | (rw [← hW]; refine wpList_load_mid rfl 24 (.tmp 5) rfl w.heap.size 0 rfl (ULIST .u8 32 r) (.array 32 5) (by rw [← hrb]; exact h5) Tryd.underlying24 rfl (by rw [ULIST_length]; exact info_hash) ?_; rw [← UARR_list]))
  rw [← hzb]
  refine (ct _).mono ?_
  rintro e w2 ⟨a', c', rfl, hown, hb⟩
  rw [← hW] at hown hb
  clear ct h5 hW hzb hrb
  have S : Aside (Has w2 zb (UARR .u8 32 fun _ => 0) 24 ∧ Below w.heap.size w w2) := ⟨R.out.1.keep hb, R.out.2.1.trans (hb.mono R.out.2.1.size)⟩
  have cs := lone_refsum d hown (small_cons' (by decide) (small_app' (small_be8 n) (small_map' H.out))) (by simp [BE8])
  have Z : Aside (w.heap.size ≤ zb) := R.out.2.2
  clear hown hb R
  go_wp2_with fail
  refine cs.mono ?_
  rintro e w3 ⟨rfl, hb3⟩
  have hb4 : Below w2.heap.size w2 w3 := ((Below.refl _ _).alloc (Nat.le_refl _) _).trans (hb3.mono (by simp))
  have S2 : Aside (Has w3 zb (UARR .u8 32 fun _ => 0) 24 ∧ Below w.heap.size w w3) := ⟨S.out.1.keep hb4, S.out.2.trans (hb4.mono S.out.2.size)⟩
  clear cs hb3 hb4 S
  go_wp2_with (first
    | (refine wpList_store_row rfl 24 _ _ rfl _ _ rfl rfl _ _ S2.out.1 (info_HASH _) (by rw [UARR_size, UARR_size]) (UARR_one _ _ _) ?_))
  refine bodyPost_ret (v := .agg (UARR .u8 32 (HASHOF d (3 :: (BE8 n ++ (List.range 32).map r))))) ?_ rfl ⟨rfl, below_row S2.out.2 Z.out _⟩
  exact results_cell_row rfl _ _ zb 24 _ (0, 0) _ rfl (S2.out.1.row _) Tryd.underlying24 rfl (info_HASH _)
end Go.Proofs.YtlcjknkocbdpoaaDoor
