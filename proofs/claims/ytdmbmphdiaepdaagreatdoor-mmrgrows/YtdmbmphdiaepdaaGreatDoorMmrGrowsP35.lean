/- Texts of MmrGrows, one behind the other: HashRefTexts, HashSumTexts, MmrRefGrow. -/
import Derived.Deep.RegionHeldLaw
import Derived.Deep.RegionHeld3
import Derived.Test.YtdmbmphdiaepdaaGreatDoorMmrGrowsP8
import Derived.Test.YtdmbmphdiaepdaaGreatDoorMmrGrowsP28
import Derived.Test.YtdmbmphdiaepdaaGreatDoorMmrGrowsP30
import Derived.Test.YtdmbmphdiaepdaaGreatDoorMmrGrowsP34
/- The document's texts: LeafText, NodeText, FoldText and RootText. -/
namespace Go.Proofs.YtdmbmphdiaepdaaGreatDoor.HX
open Go.RowKit
set_option maxRecDepth 100000

theorem own_byte (w : World) (x : Nat) (base : Nat) (hb : base ≤ w.heap.size) : (w.alloc (.cells #[.int .u8 (x : Int)] 5)).ownsRow base 5 1 (.slice (some ⟨w.heap.size, 0, none⟩) 1 1) 1 (CELLS (INTS [x])) :=
  ⟨rfl, .inr ⟨w.heap.size, 1, #[.int .u8 (x : Int)], rfl, hb, by first | exact (Has.new w _ _) | exact (Has.new w _ _).1 | simp, by decide, by decide, rfl, rfl⟩⟩
/-- what the region of two appends wants, and what it leaves. -/
theorem two_apps {w w1 : World} {x : Nat} {ba bb m1 m2 : Nat} {l1 l2 : List Nat} (hb : Below w.heap.size w w1) (h1 : Text w1 (some ⟨ba, 0, none⟩) m1 l1) (h2 : Text w1 (some ⟨bb, 0, none⟩) m2 l2) :
    Aside (Bytes (w1.alloc (.cells #[.int .u8 (x : Int)] 5)) (some ⟨ba, 0, none⟩) m1 (INTS l1) ∧ (w1.alloc (.cells #[.int .u8 (x : Int)] 5)).ownsRow w.heap.size 5 1 (.slice (some ⟨w1.heap.size, 0, none⟩) 1 1) 1 (CELLS (INTS [x])) ∧ w.heap.size ≤ w1.heap.size ∧
      (∀ w', (w1.alloc (.cells #[.int .u8 (x : Int)] 5)).grownBy w' (some w1.heap.size) → Bytes w' (some ⟨bb, 0, none⟩) m2 (INTS l2) ∧ w.heap.size ≤ w'.heap.size ∧ Below w.heap.size w w' ∧ w1.heap.size < w'.heap.size)) := by
  refine ⟨(h1.below ((Below.refl _ _).alloc (Nat.le_refl _) _)).bytes, own_byte w1 x _ hb.size, hb.size, fun w' hg => ?_⟩
  have hb' : Below w1.heap.size w1 w' := ((Below.refl _ _).alloc (Nat.le_refl _) _).grown hg (by simp) (fun k e => by cases e; exact Nat.le_refl _)
  have hs := hg.size
  simp at hs
  exact ⟨(h2.below hb').bytes, Nat.le_trans hb.size hb'.size, hb.trans (hb'.mono hb.size), by omega⟩
theorem refnodetext_ok (l r : Nat → Nat) (hl : ∀ i, l i < 256) (hr : ∀ i, r i < 256) (w : World) : Calls Tryz.prog 49 #[.agg (UARR .u8 32 l), .agg (UARR .u8 32 r)] w fun e w' =>
    ∃ a' c', e = .returned (.slice a' 65 c') ∧ w'.ownsRow w.heap.size 5 1 (.slice a' 65 c') 65 (CELLS (INTS (1 :: ((List.range 32).map l ++ (List.range 32).map r)))) ∧ Below w.heap.size w w' := by
  have hs32 := slice_whole
  obtain ⟨w1, hw1⟩ : ∃ w1, w1 = (w.alloc (.cells (UARR .u8 32 l) 26)).alloc (.cells (UARR .u8 32 r) 26) := ⟨_, rfl⟩
  have U : Below w.heap.size w w1 ∧ Has w1 w.heap.size (UARR .u8 32 l) 26 ∧ Has w1 (w.heap.size + 1) (UARR .u8 32 r) 26 := by
    rw [hw1]
    exact ⟨((Below.refl _ _).alloc (Nat.le_refl _) _).alloc (by simp) _, (Has.new w _ _).alloc _, Has.at _ _ _ (by simp)⟩
  have T1 := two_apps (x := 1) U.1.drew (Has.text (w := w1.drew) U.2.1 hl) (Has.text (w := w1.drew) U.2.2 hr)
  clear U hl hr
  go_enter Tryz.func49, Tryz.ntmps49
  go_wp2_with fail
  rw [← hw1]
  clear hw1
  generalize hh : w.heap.size + 1 = h at *
  clear hh
  go_region_held_law (fun _ => True) (trivial) (first
    | (refine step_u8 _ (by rfl) (.tmp 5) (.tmp 6) (by rfl) w.heap.size _ 1 (INTS [1]) (by rfl) T1.out.2.1 w.heap.size 0 32 32 (INTS ((List.range 32).map l)) (by rfl) T1.out.1 (by decide) (by decide) (by have := T1.out.2.2.1; simp at this ⊢; omega) 33 rfl ?_; intro g5 c5 w5 hown5 hgrow5 hat5 hlt5)
    | (refine step_u8 _ (by rfl) (.tmp 7) (.tmp 8) (by rfl) w.heap.size _ 33 _ (by rfl) hown5 h 0 32 32 (INTS ((List.range 32).map r)) (by rfl) (T1.out.2.2.2 _ hgrow5).1 (by decide) (by decide) (T1.out.2.2.2 _ hgrow5).2.1 65 rfl ?_; intro g6 c6 w6 hown6 hgrow6 hat6 hlt6))
  have S : Aside (w6.ownsRow w.heap.size 5 1 (.slice (some ⟨g6, 0, none⟩) 65 c6) 65 (CELLS (INTS (1 :: ((List.range 32).map l ++ (List.range 32).map r)))) ∧ Below w.heap.size w w6) := by
    have hb5 := (T1.out.2.2.2 _ hgrow5).2.2.1
    refine ⟨?_, hb5.grown hgrow6 hb5.size (fun k e => (hown5.lt k e).1)⟩
    have e : INTS [1] ++ INTS ((List.range 32).map l) ++ INTS ((List.range 32).map r) = INTS (1 :: ((List.range 32).map l ++ (List.range 32).map r)) := by simp [INTS]
    rw [e] at hown6
    exact hown6
  clear hown5 hgrow5 hat5 hlt5 hown6 hgrow6 hat6 hlt6 T1
  go_simp
  go_wp2
  go_ret
  exact ⟨_, _, rfl, S.out.1, S.out.2⟩
theorem reffoldtext_ok (l r : Nat → Nat) (hl : ∀ i, l i < 256) (hr : ∀ i, r i < 256) (w : World) : Calls Tryz.prog 37 #[.agg (UARR .u8 32 l), .agg (UARR .u8 32 r)] w fun e w' =>
    ∃ a' c', e = .returned (.slice a' 65 c') ∧ w'.ownsRow w.heap.size 5 1 (.slice a' 65 c') 65 (CELLS (INTS (2 :: ((List.range 32).map l ++ (List.range 32).map r)))) ∧ Below w.heap.size w w' := by
  have hs32 := slice_whole
  obtain ⟨w1, hw1⟩ : ∃ w1, w1 = (w.alloc (.cells (UARR .u8 32 l) 26)).alloc (.cells (UARR .u8 32 r) 26) := ⟨_, rfl⟩
  have U : Below w.heap.size w w1 ∧ Has w1 w.heap.size (UARR .u8 32 l) 26 ∧ Has w1 (w.heap.size + 1) (UARR .u8 32 r) 26 := by
    rw [hw1]
    exact ⟨((Below.refl _ _).alloc (Nat.le_refl _) _).alloc (by simp) _, (Has.new w _ _).alloc _, Has.at _ _ _ (by simp)⟩
  have T1 := two_apps (x := 2) U.1.drew (Has.text (w := w1.drew) U.2.1 hl) (Has.text (w := w1.drew) U.2.2 hr)
  clear U hl hr
  go_enter Tryz.func37, Tryz.ntmps37
  go_wp2_with fail
  rw [← hw1]
  clear hw1
  generalize hh : w.heap.size + 1 = h at *
  clear hh
  go_region_held_law (fun _ => True) (trivial) (first
    | (refine step_u8 _ (by rfl) (.tmp 5) (.tmp 6) (by rfl) w.heap.size _ 1 (INTS [2]) (by rfl) T1.out.2.1 w.heap.size 0 32 32 (INTS ((List.range 32).map l)) (by rfl) T1.out.1 (by decide) (by decide) (by have := T1.out.2.2.1; simp at this ⊢; omega) 33 rfl ?_; intro g5 c5 w5 hown5 hgrow5 hat5 hlt5)
    | (refine step_u8 _ (by rfl) (.tmp 7) (.tmp 8) (by rfl) w.heap.size _ 33 _ (by rfl) hown5 h 0 32 32 (INTS ((List.range 32).map r)) (by rfl) (T1.out.2.2.2 _ hgrow5).1 (by decide) (by decide) (T1.out.2.2.2 _ hgrow5).2.1 65 rfl ?_; intro g6 c6 w6 hown6 hgrow6 hat6 hlt6))
  have S : Aside (w6.ownsRow w.heap.size 5 1 (.slice (some ⟨g6, 0, none⟩) 65 c6) 65 (CELLS (INTS (2 :: ((List.range 32).map l ++ (List.range 32).map r)))) ∧ Below w.heap.size w w6) := by
    have hb5 := (T1.out.2.2.2 _ hgrow5).2.2.1
    refine ⟨?_, hb5.grown hgrow6 hb5.size (fun k e => (hown5.lt k e).1)⟩
    have e : INTS [2] ++ INTS ((List.range 32).map l) ++ INTS ((List.range 32).map r) = INTS (2 :: ((List.range 32).map l ++ (List.range 32).map r)) := by simp [INTS]
    rw [e] at hown6
    exact hown6
  clear hown5 hgrow5 hat5 hlt5 hown6 hgrow6 hat6 hlt6 T1
  go_simp
  go_wp2
  go_ret
  exact ⟨_, _, rfl, S.out.1, S.out.2⟩
theorem refroottext_ok (n : Nat) (hn : n < 2 ^ 64) (r : Nat → Nat) (hr : ∀ i, r i < 256) (w : World) : Calls Tryz.prog 36 #[.int .u64 (n : Int), .agg (UARR .u8 32 r)] w fun e w' =>
    ∃ a' c', e = .returned (.slice a' 41 c') ∧ w'.ownsRow w.heap.size 5 1 (.slice a' 41 c') 41 (CELLS (INTS (3 :: (BE8 n ++ (List.range 32).map r)))) ∧ Below w.heap.size w w' := by
  have hs32 := slice_whole
  have hs8 := slice_eight
  have hz8 := zero8b
  have H : Aside (n < 2 ^ 64 ∧ ∀ i, r i < 256) := ⟨hn, hr⟩
  clear hn hr
  go_enter Tryz.func36, Tryz.ntmps36
  go_wp2
  obtain ⟨w7, tb, hw7, htb, T⟩ : ∃ w7 tb, w7 = (w.alloc (.cells (UARR .u8 32 r) 26)).alloc (.cells (UARR .u8 8 fun _ => 0) 86) ∧ tb = w.heap.size + 1 ∧ Aside (Has w7 tb (UARR .u8 8 fun _ => 0) 86 ∧ Has w7 w.heap.size (UARR .u8 32 r) 26 ∧ Below w.heap.size w w7 ∧ w.heap.size ≠ tb ∧ w.heap.size ≤ tb) :=
    ⟨_, _, rfl, rfl, Has.at _ _ _ (by simp), (Has.new w _ _).alloc _, ((Below.refl _ _).alloc (Nat.le_refl _) _).alloc (by simp) _, by omega, by omega⟩
  rw [← hw7, ← htb]
  clear hw7 htb
  go_loopg [0, 6] 8 (fun q s0 s6 wx => ∃ z : Nat, s0 = .int .u64 (z : Int) ∧ s6 = .int .i64 ((q : Int) - 1) ∧ Aside (q ≤ 8 ∧ z = n / 2 ^ (8 * (8 - q)) ∧ Has wx tb (UARR .u8 8 fun j => if q ≤ j then n / 2 ^ (8 * (7 - j)) % 256 else 0) 86 ∧ Has wx w.heap.size (UARR .u8 32 r) 26 ∧ Below w.heap.size w wx))
  case atStart =>
    refine ⟨n, rfl, rfl, by omega, by simp, ?_, T.out.2.1, T.out.2.2.1⟩
    have : (UARR .u8 8 fun j => if 8 ≤ j then n / 2 ^ (8 * (7 - j)) % 256 else 0) = UARR .u8 8 fun _ => 0 := UARR_ext fun j hj => by rw [if_neg (by omega)]
    rw [this]
    exact T.out.1
  case round =>
    obtain ⟨z, rfl, rfl, A⟩ := hrel
    cases gk with
    | zero =>
      have hlt : ¬ (0 : Int) ≤ ((0 : Nat) : Int) - 1 := by omega
      have T1 : Aside (Bytes (wr.drew.alloc (.cells #[.int .u8 ((3 : Nat) : Int)] 5)) (some ⟨tb, 0, none⟩) 8 (INTS (BE8 n)) ∧ (wr.drew.alloc (.cells #[.int .u8 ((3 : Nat) : Int)] 5)).ownsRow w.heap.size 5 1 (.slice (some ⟨wr.drew.heap.size, 0, none⟩) 1 1) 1 (CELLS (INTS [3])) ∧ w.heap.size ≤ wr.drew.heap.size ∧
      (∀ w', (wr.drew.alloc (.cells #[.int .u8 ((3 : Nat) : Int)] 5)).grownBy w' (some wr.drew.heap.size) → Bytes w' (some ⟨w.heap.size, 0, none⟩) 32 (INTS ((List.range 32).map r)) ∧ w.heap.size ≤ w'.heap.size ∧ Below w.heap.size w w' ∧ wr.drew.heap.size < w'.heap.size)) := by
        obtain ⟨-, -, hH, hr, hbel⟩ := A.out
        have h2 : Has wr tb (UARR .u8 8 fun j => n / 2 ^ (8 * (7 - j)) % 256) 86 := by simpa using hH
        have hT8 : Text wr.drew (some ⟨tb, 0, none⟩) 8 (BE8 n) := has_text (w := wr.drew) (t := 86) (f := fun j => n / 2 ^ (8 * (7 - j)) % 256) h2 (fun i => Nat.mod_lt _ (by decide))
        exact two_apps (x := 3) hbel.drew hT8 (Has.text (w := wr.drew) hr H.out.2)
      clear A T hz8
      go_wp2_with fail
      go_region_held_law (fun _ => True) (trivial) (first
        | (refine step_u8 _ (by rfl) (.tmp 18) (.tmp 19) (by rfl) w.heap.size _ 1 (INTS [3]) (by rfl) T1.out.2.1 tb 0 8 8 (INTS (BE8 n)) (by rfl) T1.out.1 (by decide) (by decide) (by have := T1.out.2.2.1; simp at this ⊢; omega) 9 rfl ?_; intro g5 c5 w5 hown5 hgrow5 hat5 hlt5)
        | (refine step_u8 _ (by rfl) (.tmp 20) (.tmp 21) (by rfl) w.heap.size _ 9 _ (by rfl) hown5 w.heap.size 0 32 32 (INTS ((List.range 32).map r)) (by rfl) (T1.out.2.2.2 _ hgrow5).1 (by decide) (by decide) (T1.out.2.2.2 _ hgrow5).2.1 41 rfl ?_; intro g6 c6 w6 hown6 hgrow6 hat6 hlt6))
      have S : Aside (w6.ownsRow w.heap.size 5 1 (.slice (some ⟨g6, 0, none⟩) 41 c6) 41 (CELLS (INTS (3 :: (BE8 n ++ (List.range 32).map r)))) ∧ Below w.heap.size w w6) := by
        have hb5 := (T1.out.2.2.2 _ hgrow5).2.2.1
        refine ⟨?_, hb5.grown hgrow6 hb5.size (fun k e => (hown5.lt k e).1)⟩
        have e : INTS [3] ++ INTS (BE8 n) ++ INTS ((List.range 32).map r) = INTS (3 :: (BE8 n ++ (List.range 32).map r)) := by simp [INTS]
        rw [e] at hown6
        exact hown6
      clear hown5 hgrow5 hat5 hlt5 hown6 hgrow6 hat6 hlt6 T1
      go_simp
      go_wp2
      go_ret
      exact ⟨_, _, rfl, S.out.1, S.out.2⟩
    | succ q =>
      obtain ⟨q8, hz, hH, hrr, hbel⟩ := A.out
      have e0 : ((q + 1 : Nat) : Int) - 1 = (q : Int) := by omega
      have e0' : ¬ (q : Int) < 0 := by omega
      have e0'' : (q : Int) < 8 := by omega
      have ew : wrap64 ((q : Int) - 1) = (q : Int) - 1 := by unfold wrap64; omega
      have hz64' : z < 2 ^ 64 := by rw [hz]; exact Nat.lt_of_le_of_lt (Nat.div_le_self _ _) H.out.1
      obtain ⟨b0, hb0⟩ : ∃ b0, z % 256 = b0 := ⟨_, rfl⟩
      obtain ⟨z2, hz2⟩ : ∃ z2, z / 256 = z2 := ⟨_, rfl⟩
      have em : (z : Int) % 256 = (b0 : Int) := by omega
      have em2 : (b0 : Int) % 256 = (b0 : Int) := by omega
      have ed : (z : Int) / 256 = (z2 : Int) := by omega
      have ed2 : IntKind.u64.wrap (z2 : Int) = (z2 : Int) := by rw [wrapU]; omega
      have em3 : IntKind.u64.wrap (b0 : Int) = (b0 : Int) := by rw [wrapU]; omega
      have y0 : wr.cell? ⟨tb, q, none⟩ = some (.int .u8 0) := by
        rw [hH.cell q, UARR_get _ _ _ _ (by omega), if_neg (by omega)]
        rfl
      have f0 : wr.frozen? ⟨tb, q, none⟩ = false := hH.frozen q
      have R : Aside (q ≤ 8 ∧ z2 = n / 2 ^ (8 * (8 - q)) ∧ Has (wr.setCell ⟨tb, q, none⟩ (.int .u8 (b0 : Int))) tb (UARR .u8 8 fun j => if q ≤ j then n / 2 ^ (8 * (7 - j)) % 256 else 0) 86 ∧ Has (wr.setCell ⟨tb, q, none⟩ (.int .u8 (b0 : Int))) w.heap.size (UARR .u8 32 r) 26 ∧ Below w.heap.size w (wr.setCell ⟨tb, q, none⟩ (.int .u8 (b0 : Int)))) := by
        refine ⟨by omega, ?_, ?_, hrr.other (a := ⟨tb, q, none⟩) T.out.2.2.2.1 _, hbel.setCell (p := ⟨tb, q, none⟩) T.out.2.2.2.2 _⟩
        · rw [← hz2, hz, Nat.div_div_eq_div_mul, show (256 : Nat) = 2 ^ 8 from rfl, ← Nat.pow_add]
          congr 2
          omega
        · have h := hH.set q (.int .u8 (b0 : Int))
          rw [UARR_set] at h
          have e : (UARR .u8 8 fun j => if j = q then b0 else if q + 1 ≤ j then n / 2 ^ (8 * (7 - j)) % 256 else 0) = UARR .u8 8 fun j => if q ≤ j then n / 2 ^ (8 * (7 - j)) % 256 else 0 := UARR_ext fun j hj => by
            by_cases e : j = q
            · subst e
              rw [if_pos rfl, if_pos (Nat.le_refl _), ← hb0, hz]
              congr 3
              omega
            · rw [if_neg e]
              by_cases e2 : q + 1 ≤ j
              · rw [if_pos e2, if_pos (by omega)]
              · rw [if_neg e2, if_neg (by omega)]
          rw [e] at h
          exact h
      rw [e0]
      clear A hz hH hrr hbel q8 hb0 hz2 hz64'
      go_wp2
      go_roundg q
      case measure => omega
      case rel => exact ⟨z2, by first | rfl, by first | rfl | (rw [ew]), R.out⟩
end Go.Proofs.YtdmbmphdiaepdaaGreatDoor.HX

/- The hashes of the texts: Leaf, Node, Fold and Root, of the document (those of package hash: HashSumPlain). -/
namespace Go.Proofs.YtdmbmphdiaepdaaGreatDoor.HX
open Go.RowKit
set_option maxRecDepth 100000

/-- the same, of the document. -/
theorem lone_refsum {w : World} (d : Int) {B n c : Nat} {a : Option Addr} {l : List Nat} (h : w.ownsRow B 5 1 (.slice a n c) n (CELLS (INTS l))) (hs : Small8 l) (hl : l.length < 5000) :
    Calls Tryz.prog 35 #[.int .i64 d, .slice (some ⟨w.heap.size, 0, none⟩) 1 1] (w.alloc (.cells #[.slice a n c] 63)) fun e w' => e = .returned (.agg (UARR .u8 32 (HASHOF d l))) ∧ Below (w.alloc (.cells #[.slice a n c] 63)).heap.size (w.alloc (.cells #[.slice a n c] 63)) w' := by
  have := refsum_ok d _ 1 1 _ _ (own_parts h hs).1.zero (fun p hp => by simp only [List.mem_singleton] at hp; subst hp; exact (own_parts h hs).2) (by rw [join_one]; omega) (by decide)
  rw [join_one] at this
  exact this
theorem refnode_ok (d : Int) (l r : Nat → Nat) (hl : ∀ i, l i < 256) (hr : ∀ i, r i < 256) (w : World) : Calls Tryz.prog 30 #[.int .i64 d, .agg (UARR .u8 32 l), .agg (UARR .u8 32 r)] w fun e w' => e = .returned (.agg (UARR .u8 32 (HASHOF d (1 :: ((List.range 32).map l ++ (List.range 32).map r))))) ∧ Below w.heap.size w w' := by
  have hz := zero32
  have ct := fun W => refnodetext_ok l r hl hr W
  have H : Aside ((∀ i, l i < 256) ∧ (∀ i, r i < 256)) := ⟨hl, hr⟩
  obtain ⟨W, zb, lb, rb, hW, hzb, hlb, hrb, R, h4, h5⟩ : ∃ W zb lb rb, W = ((w.alloc (.cells (UARR .u8 32 l) 26)).alloc (.cells (UARR .u8 32 r) 26)).alloc (.cells (UARR .u8 32 fun _ => 0) 26) ∧ zb = w.heap.size + 1 + 1 ∧ lb = w.heap.size ∧ rb = w.heap.size + 1 ∧ Aside (Has W zb (UARR .u8 32 fun _ => 0) 26 ∧ Below w.heap.size w W ∧ w.heap.size ≤ zb) ∧ W.rangeAt lb 0 (ULIST .u8 32 l) ∧ W.rangeAt rb 0 (ULIST .u8 32 r) := by
    refine ⟨_, _, _, _, rfl, rfl, rfl, rfl, ⟨Has.at _ _ _ (by simp), (((Below.refl _ _).alloc (Nat.le_refl _) _).alloc (by simp) _).alloc (by simp; omega) _, by omega⟩, (((Has.new w _ _).alloc _).alloc _).whole, ((Has.at _ _ _ (by simp)).alloc _).whole⟩
  clear hl hr
  go_enter Tryz.func30, Tryz.ntmps30
  go_wp2_with (first
    | (rw [← hW]; refine wpList_load_mid rfl 26 (.tmp 4) rfl w.heap.size 0 rfl (ULIST .u8 32 l) (.array 32 5) (by rw [← hlb]; exact h4) Tryz.underlying26 rfl (by rw [ULIST_length]; exact info_hash) ?_; rw [← UARR_list])
    | (refine wpList_load_mid rfl 26 (.tmp 5) rfl (w.heap.size + 1) 0 rfl (ULIST .u8 32 r) (.array 32 5) (by rw [← hrb]; exact h5) Tryz.underlying26 rfl (by rw [ULIST_length]; exact info_hash) ?_; rw [← UARR_list]))
  rw [← hzb]
  refine (ct _).mono ?_
  rintro e w2 ⟨a', c', rfl, hown, hb⟩
  rw [← hW] at hown hb
  clear ct h4 h5 hW hzb hlb hrb
  have S : Aside (Has w2 zb (UARR .u8 32 fun _ => 0) 26 ∧ Below w.heap.size w w2) := ⟨R.out.1.keep hb, R.out.2.1.trans (hb.mono R.out.2.1.size)⟩
  have cs := lone_refsum d hown (small_cons' (by decide) (small_app' (small_map' H.out.1) (small_map' H.out.2))) (by simp)
  have Z : Aside (w.heap.size ≤ zb) := R.out.2.2
  clear hown hb R
  go_wp2_with fail
  refine cs.mono ?_
  rintro e w3 ⟨rfl, hb3⟩
  have hb4 : Below w2.heap.size w2 w3 := ((Below.refl _ _).alloc (Nat.le_refl _) _).trans (hb3.mono (by simp))
  have S2 : Aside (Has w3 zb (UARR .u8 32 fun _ => 0) 26 ∧ Below w.heap.size w w3) := ⟨S.out.1.keep hb4, S.out.2.trans (hb4.mono S.out.2.size)⟩
  clear cs hb3 hb4 S
  go_wp2_with (first
    | (refine wpList_store_row rfl 26 _ _ rfl _ _ rfl rfl _ _ S2.out.1 (info_HASH _) (by rw [UARR_size, UARR_size]) (UARR_one _ _ _) ?_))
  refine bodyPost_ret (v := .agg (UARR .u8 32 (HASHOF d (1 :: ((List.range 32).map l ++ (List.range 32).map r))))) ?_ rfl ⟨rfl, below_row S2.out.2 Z.out _⟩
  exact results_cell_row rfl _ _ zb 26 _ (0, 0) _ rfl (S2.out.1.row _) Tryz.underlying26 rfl (info_HASH _)
theorem reffold_ok (d : Int) (l r : Nat → Nat) (hl : ∀ i, l i < 256) (hr : ∀ i, r i < 256) (w : World) : Calls Tryz.prog 17 #[.int .i64 d, .agg (UARR .u8 32 l), .agg (UARR .u8 32 r)] w fun e w' => e = .returned (.agg (UARR .u8 32 (HASHOF d (2 :: ((List.range 32).map l ++ (List.range 32).map r))))) ∧ Below w.heap.size w w' := by
  have hz := zero32
  have ct := fun W => reffoldtext_ok l r hl hr W
  have H : Aside ((∀ i, l i < 256) ∧ (∀ i, r i < 256)) := ⟨hl, hr⟩
  obtain ⟨W, zb, lb, rb, hW, hzb, hlb, hrb, R, h4, h5⟩ : ∃ W zb lb rb, W = ((w.alloc (.cells (UARR .u8 32 l) 26)).alloc (.cells (UARR .u8 32 r) 26)).alloc (.cells (UARR .u8 32 fun _ => 0) 26) ∧ zb = w.heap.size + 1 + 1 ∧ lb = w.heap.size ∧ rb = w.heap.size + 1 ∧ Aside (Has W zb (UARR .u8 32 fun _ => 0) 26 ∧ Below w.heap.size w W ∧ w.heap.size ≤ zb) ∧ W.rangeAt lb 0 (ULIST .u8 32 l) ∧ W.rangeAt rb 0 (ULIST .u8 32 r) := by
    refine ⟨_, _, _, _, rfl, rfl, rfl, rfl, ⟨Has.at _ _ _ (by simp), (((Below.refl _ _).alloc (Nat.le_refl _) _).alloc (by simp) _).alloc (by simp; omega) _, by omega⟩, (((Has.new w _ _).alloc _).alloc _).whole, ((Has.at _ _ _ (by simp)).alloc _).whole⟩
  clear hl hr
  go_enter Tryz.func17, Tryz.ntmps17
  go_wp2_with (first
    | (rw [← hW]; refine wpList_load_mid rfl 26 (.tmp 4) rfl w.heap.size 0 rfl (ULIST .u8 32 l) (.array 32 5) (by rw [← hlb]; exact h4) Tryz.underlying26 rfl (by rw [ULIST_length]; exact info_hash) ?_; rw [← UARR_list])
    | (refine wpList_load_mid rfl 26 (.tmp 5) rfl (w.heap.size + 1) 0 rfl (ULIST .u8 32 r) (.array 32 5) (by rw [← hrb]; exact h5) Tryz.underlying26 rfl (by rw [ULIST_length]; exact info_hash) ?_; rw [← UARR_list]))
  rw [← hzb]
  refine (ct _).mono ?_
  rintro e w2 ⟨a', c', rfl, hown, hb⟩
  rw [← hW] at hown hb
  clear ct h4 h5 hW hzb hlb hrb
  have S : Aside (Has w2 zb (UARR .u8 32 fun _ => 0) 26 ∧ Below w.heap.size w w2) := ⟨R.out.1.keep hb, R.out.2.1.trans (hb.mono R.out.2.1.size)⟩
  have cs := lone_refsum d hown (small_cons' (by decide) (small_app' (small_map' H.out.1) (small_map' H.out.2))) (by simp)
  have Z : Aside (w.heap.size ≤ zb) := R.out.2.2
  clear hown hb R
  go_wp2_with fail
  refine cs.mono ?_
  rintro e w3 ⟨rfl, hb3⟩
  have hb4 : Below w2.heap.size w2 w3 := ((Below.refl _ _).alloc (Nat.le_refl _) _).trans (hb3.mono (by simp))
  have S2 : Aside (Has w3 zb (UARR .u8 32 fun _ => 0) 26 ∧ Below w.heap.size w w3) := ⟨S.out.1.keep hb4, S.out.2.trans (hb4.mono S.out.2.size)⟩
  clear cs hb3 hb4 S
  go_wp2_with (first
    | (refine wpList_store_row rfl 26 _ _ rfl _ _ rfl rfl _ _ S2.out.1 (info_HASH _) (by rw [UARR_size, UARR_size]) (UARR_one _ _ _) ?_))
  refine bodyPost_ret (v := .agg (UARR .u8 32 (HASHOF d (2 :: ((List.range 32).map l ++ (List.range 32).map r))))) ?_ rfl ⟨rfl, below_row S2.out.2 Z.out _⟩
  exact results_cell_row rfl _ _ zb 26 _ (0, 0) _ rfl (S2.out.1.row _) Tryz.underlying26 rfl (info_HASH _)
theorem refroot_ok (d : Int) (n : Nat) (hn : n < 2 ^ 64) (r : Nat → Nat) (hr : ∀ i, r i < 256) (w : World) : Calls Tryz.prog 16 #[.int .i64 d, .int .u64 (n : Int), .agg (UARR .u8 32 r)] w fun e w' => e = .returned (.agg (UARR .u8 32 (HASHOF d (3 :: (BE8 n ++ (List.range 32).map r))))) ∧ Below w.heap.size w w' := by
  have hz := zero32
  have ct := fun W => refroottext_ok n hn r hr W
  have H : Aside ((∀ i, r i < 256)) := hr
  obtain ⟨W, zb, rb, hW, hzb, hrb, R, h5⟩ : ∃ W zb rb, W = (w.alloc (.cells (UARR .u8 32 r) 26)).alloc (.cells (UARR .u8 32 fun _ => 0) 26) ∧ zb = w.heap.size + 1 ∧ rb = w.heap.size ∧ Aside (Has W zb (UARR .u8 32 fun _ => 0) 26 ∧ Below w.heap.size w W ∧ w.heap.size ≤ zb) ∧ W.rangeAt rb 0 (ULIST .u8 32 r) := by
    refine ⟨_, _, _, rfl, rfl, rfl, ⟨Has.at _ _ _ (by simp), ((Below.refl _ _).alloc (Nat.le_refl _) _).alloc (by simp) _, by omega⟩, ((Has.new w _ _).alloc _).whole⟩
  clear hn hr
  go_enter Tryz.func16, Tryz.ntmps16
  go_wp2_with (first
    | (rw [← hW]; refine wpList_load_mid rfl 26 (.tmp 5) rfl w.heap.size 0 rfl (ULIST .u8 32 r) (.array 32 5) (by rw [← hrb]; exact h5) Tryz.underlying26 rfl (by rw [ULIST_length]; exact info_hash) ?_; rw [← UARR_list]))
  rw [← hzb]
  refine (ct _).mono ?_
  rintro e w2 ⟨a', c', rfl, hown, hb⟩
  rw [← hW] at hown hb
  clear ct h5 hW hzb hrb
  have S : Aside (Has w2 zb (UARR .u8 32 fun _ => 0) 26 ∧ Below w.heap.size w w2) := ⟨R.out.1.keep hb, R.out.2.1.trans (hb.mono R.out.2.1.size)⟩
  have cs := lone_refsum d hown (small_cons' (by decide) (small_app' (small_be8 n) (small_map' H.out))) (by simp [BE8])
  have Z : Aside (w.heap.size ≤ zb) := R.out.2.2
  clear hown hb R
  go_wp2_with fail
  refine cs.mono ?_
  rintro e w3 ⟨rfl, hb3⟩
  have hb4 : Below w2.heap.size w2 w3 := ((Below.refl _ _).alloc (Nat.le_refl _) _).trans (hb3.mono (by simp))
  have S2 : Aside (Has w3 zb (UARR .u8 32 fun _ => 0) 26 ∧ Below w.heap.size w w3) := ⟨S.out.1.keep hb4, S.out.2.trans (hb4.mono S.out.2.size)⟩
  clear cs hb3 hb4 S
  go_wp2_with (first
    | (refine wpList_store_row rfl 26 _ _ rfl _ _ rfl rfl _ _ S2.out.1 (info_HASH _) (by rw [UARR_size, UARR_size]) (UARR_one _ _ _) ?_))
  refine bodyPost_ret (v := .agg (UARR .u8 32 (HASHOF d (3 :: (BE8 n ++ (List.range 32).map r))))) ?_ rfl ⟨rfl, below_row S2.out.2 Z.out _⟩
  exact results_cell_row rfl _ _ zb 26 _ (0, 0) _ rfl (S2.out.1.row _) Tryz.underlying26 rfl (info_HASH _)
end Go.Proofs.YtdmbmphdiaepdaaGreatDoor.HX

/- The document's Grow: massifref6.Grow. -/
namespace Go.Proofs.YtdmbmphdiaepdaaGreatDoor.HX
open Go.RowKit
set_option maxRecDepth 100000

theorem NODES_half {H x : Nat} (hx : x < 2 ^ H) : NODES (2 ^ H + x) = 2 * 2 ^ H - 1 + NODES x := by
  have h1 := PC_add H 1 x hx
  rw [Nat.one_mul, PC_one] at h1
  have h2 := PC_le x
  have h3 := Nat.two_pow_pos H
  unfold NODES
  omega
theorem NODES_pow (H : Nat) : NODES (2 ^ H) = 2 * 2 ^ H - 1 := by
  have h := NODES_half (H := H) (x := 0) (Nat.two_pow_pos H)
  rw [Nat.add_zero] at h
  rw [h]
  rfl
theorem PLC_pow (H : Nat) : PLC H 0 = 2 * 2 ^ H - 2 := by
  have h1 := PLC_last H 0
  have h2 : NODES (2 ^ H - 1) = 2 * (2 ^ H - 1) - H := by unfold NODES; rw [PC_ones]
  rw [Nat.zero_add, Nat.one_mul, h2] at h1
  have h3 : H < 2 ^ H := Nat.lt_two_pow_self
  omega
/-- the leaves of the right half. -/
def SHF (H : Nat) (f : Nat → Nat → Nat) : Nat → Nat → Nat := fun i => f (2 ^ H + i)
theorem VAL_shift (d : Int) (f : Nat → Nat → Nat) (H : Nat) : ∀ h k, h ≤ H → VAL d f h (2 ^ (H - h) + k) = VAL d (SHF H f) h k
  | 0, k, _ => by rw [VAL, VAL, SHF, Nat.sub_zero]
  | h + 1, k, hh => by
    have e : 2 * 2 ^ (H - (h + 1)) = 2 ^ (H - h) := by rw [show H - h = (H - (h + 1)) + 1 by omega, Nat.pow_succ]; omega
    rw [VAL, VAL, ← VAL_shift d f H h (2 * k) (by omega), ← VAL_shift d f H h (2 * k + 1) (by omega), Nat.mul_add, e, Nat.add_assoc]
theorem PLC_shift {H h k : Nat} (hh : h ≤ H) (hk : (k + 1) * 2 ^ h ≤ 2 ^ H) : PLC h (2 ^ (H - h) + k) = 2 * 2 ^ H - 1 + PLC h k := by
  have h1 := PLC_last h (2 ^ (H - h) + k)
  have h2 := PLC_last h k
  have e : 2 ^ (H - h) * 2 ^ h = 2 ^ H := by rw [← Nat.pow_add, show H - h + h = H by omega]
  have h0 : 0 < (k + 1) * 2 ^ h := Nat.mul_pos (by omega) (Nat.two_pow_pos h)
  have e2 : (2 ^ (H - h) + k + 1) * 2 ^ h - 1 = 2 ^ H + ((k + 1) * 2 ^ h - 1) := by
    rw [Nat.add_assoc, Nat.add_mul, e]
    omega
  rw [e2, NODES_half (by omega)] at h1
  omega
/-- the nodes of the perfect tree over 2^H leaves, in a list. -/
structure PERF (d : Int) (H : Nat) (f : Nat → Nat → Nat) (l : List (Nat → Nat)) : Prop where
  len : l.length = 2 * 2 ^ H - 1
  at' : ∀ h k, (k + 1) * 2 ^ h ≤ 2 ^ H → l[PLC h k]? = some (VAL d f h k)
theorem PERF.last {d : Int} {H : Nat} {f : Nat → Nat → Nat} {l : List (Nat → Nat)} (h : PERF d H f l) : l[2 * 2 ^ H - 2]? = some (VAL d f H 0) := by
  rw [← PLC_pow]
  exact h.at' H 0 (by omega)
theorem PERF.join {d : Int} {H : Nat} {f : Nat → Nat → Nat} {l r : List (Nat → Nat)} (hl : PERF d H f l) (hr : PERF d H (SHF H f) r) : PERF d (H + 1) f (l ++ r ++ [NODEF d (VAL d f H 0) (VAL d (SHF H f) H 0)]) := by
  have h0 := Nat.two_pow_pos H
  have hs : 2 ^ (H + 1) = 2 * 2 ^ H := by rw [Nat.pow_succ]; omega
  refine ⟨by rw [List.length_append, List.length_append, hl.len, hr.len, List.length_singleton, hs]; omega, fun h k hk => ?_⟩
  have hlen : (l ++ r).length = 2 * (2 * 2 ^ H) - 2 := by rw [List.length_append, hl.len, hr.len]; omega
  by_cases hh : h ≤ H
  · by_cases hk2 : (k + 1) * 2 ^ h ≤ 2 ^ H
    · have h1 := PLC_under hk2
      rw [NODES_pow] at h1
      rw [List.append_assoc, List.getElem?_append_left (by rw [hl.len]; exact h1)]
      exact hl.at' h k hk2
    · have e : 2 ^ (H - h) * 2 ^ h = 2 ^ H := by rw [← Nat.pow_add, show H - h + h = H by omega]
      have hkk : 2 ^ (H - h) ≤ k := by
        rcases Nat.lt_or_ge k (2 ^ (H - h)) with h1 | h1
        · exact absurd (Nat.le_trans (Nat.mul_le_mul_right (2 ^ h) (show k + 1 ≤ 2 ^ (H - h) from h1)) (Nat.le_of_eq e)) hk2
        · exact h1
      obtain ⟨k', rfl⟩ : ∃ k', k = 2 ^ (H - h) + k' := ⟨k - 2 ^ (H - h), by omega⟩
      have hk' : (k' + 1) * 2 ^ h ≤ 2 ^ H := by
        rw [Nat.add_assoc, Nat.add_mul, e, hs] at hk
        omega
      have h1 := PLC_under hk'
      rw [NODES_pow] at h1
      rw [PLC_shift hh hk', VAL_shift d f H h k' hh, List.getElem?_append_left (by rw [hlen]; omega), List.getElem?_append_right (by rw [hl.len]; omega), hl.len, Nat.add_sub_cancel_left]
      exact hr.at' h k' hk'
  · have e1 : h = H + 1 ∧ k = 0 := by
      have h2 : 2 ^ (H + 1) ≤ 2 ^ h := Nat.pow_le_pow_right (by decide) (by omega)
      have h3 : k = 0 := by
        rcases Nat.eq_zero_or_pos k with h4 | h4
        · exact h4
        · have h5 : 2 * 2 ^ h ≤ (k + 1) * 2 ^ h := Nat.mul_le_mul_right _ (by omega)
          have := Nat.two_pow_pos h
          omega
      refine ⟨?_, h3⟩
      rcases Nat.lt_or_ge (H + 1) h with h4 | h4
      · have h5 : 2 ^ (H + 1) < 2 ^ h := Nat.pow_lt_pow_right (by decide) h4
        rw [h3, Nat.zero_add, Nat.one_mul] at hk
        omega
      · omega
    obtain ⟨rfl, rfl⟩ := e1
    have e2 := VAL_shift d f H H 0 (Nat.le_refl _)
    rw [Nat.sub_self, Nat.pow_zero, Nat.add_zero] at e2
    rw [PLC_pow, hs, ← hlen, List.getElem?_append_right (Nat.le_refl _), Nat.sub_self, VAL, Nat.mul_zero, Nat.zero_add, e2]
    rfl
theorem PERF.one (d : Int) (f : Nat → Nat → Nat) : PERF d 0 f [f 0] := by
  refine ⟨rfl, fun h k hk => ?_⟩
  have h1 := last_lt h k
  have h2 : h = 0 := by
    rcases Nat.eq_zero_or_pos h with h3 | h3
    · exact h3
    · have : 2 ^ 1 ≤ 2 ^ h := Nat.pow_le_pow_right (by decide) h3
      have h4 : 1 * 2 ^ h ≤ (k + 1) * 2 ^ h := Nat.mul_le_mul_right _ (by omega)
      simp at hk
      omega
  subst h2
  have h3 : k = 0 := by simp at hk; omega
  subst h3
  rw [show PLC 0 0 = 0 by decide]
  rfl
end Go.Proofs.YtdmbmphdiaepdaaGreatDoor.HX
