/- Texts of ClashPeaks, one behind the other: HashRefTexts, HashSumTexts, MmrRefBag, VerifyReachPlain, VerifyRefClimbRegions, NumLongCalls, NumLongPlain, ProofMark, ProofHashPlain, ProofHashes, ProofLong, ProofDecodePlain, ProofRoundPlain, NumRefBytes, NumRefLong, ProofRefDecode, ProofRefEncode, VerifyRefClimb, VerifyRefOver, VerifyRefReachRegion, VerifySpotRow, VerifyRefReach. -/
import Derived.Deep.RegionHeldLaw
import Derived.Deep.RegionHeld3
import Derived.Deep.RegionLaw
import Derived.Laws.CopyOwn
import Derived.BigQuiet
import Derived.Laws.AppendOwnNone
import Derived.Test.YtbmjoiiagldklaaDoorClashPeaksP1
import Derived.Test.YtbmjoiiagldklaaDoorClashPeaksP5
import Derived.Test.YtbmjoiiagldklaaDoorClashPeaksP6
import Derived.Test.YtbmjoiiagldklaaDoorClashPeaksP7
import Derived.Test.YtbmjoiiagldklaaDoorClashPeaksP13
import Derived.Test.YtbmjoiiagldklaaDoorClashPeaksP14
import Derived.Test.YtbmjoiiagldklaaDoorClashPeaksP19
import Derived.Test.YtbmjoiiagldklaaDoorClashPeaksP20
import Derived.Test.YtbmjoiiagldklaaDoorClashPeaksP22
import Derived.Test.YtbmjoiiagldklaaDoorClashPeaksP31
/- The document's texts: LeafText, NodeText, FoldText and RootText. -/
namespace Go.Proofs.YtbmjoiiagldklaaDoor.HX
open Go.RowKit
set_option maxRecDepth 100000

theorem own_byte (w : World) (x : Nat) (base : Nat) (hb : base ≤ w.heap.size) : (w.alloc (.cells #[.int .u8 (x : Int)] 5)).ownsRow base 5 1 (.slice (some ⟨w.heap.size, 0, none⟩) 1 1) 1 (CELLS (INTS [x])) :=
  ⟨rfl, .inr ⟨w.heap.size, 1, #[.int .u8 (x : Int)], rfl, hb, by first | exact (Has.new w _ _) | exact (Has.new w _ _).1 | simp, by decide, by decide, rfl, rfl⟩⟩
/-- what the region of two appends wants, and what it leaves. -/
theorem two_apps {w w1 : World} {x : Nat} {ba bb m1 m2 : Nat} {l1 l2 : List Nat} (hb : Below w.heap.size w w1) (h1 : Text w1 (some ⟨ba, 0, none⟩) m1 l1) (h2 : Text w1 (some ⟨bb, 0, none⟩) m2 l2) :
    Aside (Bytes (w1.alloc (.cells #[.int .u8 (x : Int)] 5)) (some ⟨ba, 0, none⟩) m1 (INTS l1) ∧ (w1.alloc (.cells #[.int .u8 (x : Int)] 5)).ownsRow w.heap.size 5 1 (.slice (some ⟨w1.heap.size, 0, none⟩) 1 1) 1 (CELLS (INTS [x])) ∧ w.heap.size ≤ w1.heap.size ∧
      (∀ w', (w1.alloc (.cells #[.int .u8 (x : Int)] 5)).grownBy w' (some w1.heap.size) → Bytes w' (some ⟨bb, 0, none⟩) m2 (INTS l2) ∧ w.heap.size ≤ w'.heap.size ∧ Below w.heap.size w w' ∧ w1.heap.size < w'.heap.size)) := by
  refine ⟨(h1.below ((Below.refl _ _).alloc (Nat.le_refl _) _)).bytes, own_byte w1 x _ hb.size, hb.size, fun w' hg => ?_⟩
  have hb' : Below w1.heap.size w1 w' := ((Below.refl _ _).alloc (Nat.le_refl _) _).grown hg (by simp) (fun k e => by cases e; exact Nat.le_refl _)
  have hs := hg.size
  simp at hs
  exact ⟨(h2.below hb').bytes, Nat.le_trans hb.size hb'.size, hb.trans (hb'.mono hb.size), by omega⟩
theorem reffoldtext_ok (l r : Nat → Nat) (hl : ∀ i, l i < 256) (hr : ∀ i, r i < 256) (w : World) : Calls Tryd.prog 44 #[.agg (UARR .u8 32 l), .agg (UARR .u8 32 r)] w fun e w' =>
    ∃ a' c', e = .returned (.slice a' 65 c') ∧ w'.ownsRow w.heap.size 5 1 (.slice a' 65 c') 65 (CELLS (INTS (2 :: ((List.range 32).map l ++ (List.range 32).map r)))) ∧ Below w.heap.size w w' := by
  have hs32 := slice_whole
  obtain ⟨w1, hw1⟩ : ∃ w1, w1 = (w.alloc (.cells (UARR .u8 32 l) 26)).alloc (.cells (UARR .u8 32 r) 26) := ⟨_, rfl⟩
  have U : Below w.heap.size w w1 ∧ Has w1 w.heap.size (UARR .u8 32 l) 26 ∧ Has w1 (w.heap.size + 1) (UARR .u8 32 r) 26 := by
    rw [hw1]
    exact ⟨((Below.refl _ _).alloc (Nat.le_refl _) _).alloc (by simp) _, (Has.new w _ _).alloc _, Has.at _ _ _ (by simp)⟩
  have T1 := two_apps (x := 2) U.1.drew (Has.text (w := w1.drew) U.2.1 hl) (Has.text (w := w1.drew) U.2.2 hr)
  clear U hl hr
  go_enter Tryd.func44, Tryd.ntmps44
  go_wp2_with fail
  rw [← hw1]
  clear hw1
  generalize hh : w.heap.size + 1 = h at *
  clear hh
  go_region_held_law (fun _ => True) (trivial) (first
    | (refine step_u8 _ (by rfl) (.tmp 5) (.tmp 6) (by rfl) w.heap.size _ 1 (INTS [2]) (by rfl) T1.out.2.1 w.heap.size 0 32 32 (INTS ((List.range 32).map l)) (by rfl) T1.out.1 (by decide) (by decide) (by have := T1.out.2.2.1; simp at this ⊢; omega) 33 rfl ?_; intro g5 c5 w5 hown5 hgrow5 hat5 hlt5)
    | (refine step_u8 _ (by rfl) (.tmp 7) (.tmp 8) (by rfl) w.heap.size _ 33 _ (by rfl) hown5 h 0 32 32 (INTS ((List.range 32).map r)) (by rfl) (T1.out.2.2.2 _ hgrow5).1 (by decide) (by decide) (T1.out.2.2.2 _ hgrow5).2.1 65 rfl ?_; intro g6 c6 w6 hown6 hgrow6 hat6 hlt6))
  have S : Aside (w6.ownsRow w.heap.size 5 1 (.slice (some ⟨g6, 0, none⟩) 65 c6) 65 (CELLS (INTS (2 :: ((List.range 32).map l ++ (List.range 32).map r)))) ∧ Below w.heap.size w w6) := by
    have hb5 := (T1.out.2.2.2 _ hgrow5).2.2.1
    refine ⟨?_, hb5.grown hgrow6 hb5.size (fun k e => (hown5.lt k e).1)⟩
    have e : INTS [2] ++ INTS ((List.range 32).map l) ++ INTS ((List.range 32).map r) = INTS (2 :: ((List.range 32).map l ++ (List.range 32).map r)) := by simp [INTS]
    rw [e] at hown6
    exact hown6
  clear hown5 hgrow5 hat5 hlt5 hown6 hgrow6 hat6 hlt6 T1
  go_simp
  go_wp2
  go_ret
  exact ⟨_, _, rfl, S.out.1, S.out.2⟩
theorem refroottext_ok (n : Nat) (hn : n < 2 ^ 64) (r : Nat → Nat) (hr : ∀ i, r i < 256) (w : World) : Calls Tryd.prog 43 #[.int .u64 (n : Int), .agg (UARR .u8 32 r)] w fun e w' =>
    ∃ a' c', e = .returned (.slice a' 41 c') ∧ w'.ownsRow w.heap.size 5 1 (.slice a' 41 c') 41 (CELLS (INTS (3 :: (BE8 n ++ (List.range 32).map r)))) ∧ Below w.heap.size w w' := by
  have hs32 := slice_whole
  have hs8 := slice_eight
  have hz8 := zero8b
  have H : Aside (n < 2 ^ 64 ∧ ∀ i, r i < 256) := ⟨hn, hr⟩
  clear hn hr
  go_enter Tryd.func43, Tryd.ntmps43
  go_wp2
  obtain ⟨w7, tb, hw7, htb, T⟩ : ∃ w7 tb, w7 = (w.alloc (.cells (UARR .u8 32 r) 26)).alloc (.cells (UARR .u8 8 fun _ => 0) 130) ∧ tb = w.heap.size + 1 ∧ Aside (Has w7 tb (UARR .u8 8 fun _ => 0) 130 ∧ Has w7 w.heap.size (UARR .u8 32 r) 26 ∧ Below w.heap.size w w7 ∧ w.heap.size ≠ tb ∧ w.heap.size ≤ tb) :=
    ⟨_, _, rfl, rfl, Has.at _ _ _ (by simp), (Has.new w _ _).alloc _, ((Below.refl _ _).alloc (Nat.le_refl _) _).alloc (by simp) _, by omega, by omega⟩
  rw [← hw7, ← htb]
  clear hw7 htb
  go_loopg [0, 6] 8 (fun q s0 s6 wx => ∃ z : Nat, s0 = .int .u64 (z : Int) ∧ s6 = .int .i64 ((q : Int) - 1) ∧ Aside (q ≤ 8 ∧ z = n / 2 ^ (8 * (8 - q)) ∧ Has wx tb (UARR .u8 8 fun j => if q ≤ j then n / 2 ^ (8 * (7 - j)) % 256 else 0) 130 ∧ Has wx w.heap.size (UARR .u8 32 r) 26 ∧ Below w.heap.size w wx))
  case atStart =>
    refine ⟨n, rfl, rfl, by omega, by simp, ?_, T.out.2.1, T.out.2.2.1⟩
    have : (UARR .u8 8 fun j => if 8 ≤ j then n / 2 ^ (8 * (7 - j)) % 256 else 0) = UARR .u8 8 fun _ => 0 := UARR_ext fun j hj => by rw [if_neg (by omega)]
    rw [this]
    exact T.out.1
  case round =>
    obtain ⟨z, rfl, rfl, A⟩ := hrel
    cases gk with
    | zero =>
      have hlt : ¬ (0 : Int) ≤ ((0 : Nat) : Int) - 1 := by omega
      have T1 : Aside (Bytes (wr.drew.alloc (.cells #[.int .u8 ((3 : Nat) : Int)] 5)) (some ⟨tb, 0, none⟩) 8 (INTS (BE8 n)) ∧ (wr.drew.alloc (.cells #[.int .u8 ((3 : Nat) : Int)] 5)).ownsRow w.heap.size 5 1 (.slice (some ⟨wr.drew.heap.size, 0, none⟩) 1 1) 1 (CELLS (INTS [3])) ∧ w.heap.size ≤ wr.drew.heap.size ∧
      (∀ w', (wr.drew.alloc (.cells #[.int .u8 ((3 : Nat) : Int)] 5)).grownBy w' (some wr.drew.heap.size) → Bytes w' (some ⟨w.heap.size, 0, none⟩) 32 (INTS ((List.range 32).map r)) ∧ w.heap.size ≤ w'.heap.size ∧ Below w.heap.size w w' ∧ wr.drew.heap.size < w'.heap.size)) := by
        obtain ⟨-, -, hH, hr, hbel⟩ := A.out
        have h2 : Has wr tb (UARR .u8 8 fun j => n / 2 ^ (8 * (7 - j)) % 256) 130 := by simpa using hH
        have hT8 : Text wr.drew (some ⟨tb, 0, none⟩) 8 (BE8 n) := has_text (w := wr.drew) (t := 130) (f := fun j => n / 2 ^ (8 * (7 - j)) % 256) h2 (fun i => Nat.mod_lt _ (by decide))
        exact two_apps (x := 3) hbel.drew hT8 (Has.text (w := wr.drew) hr H.out.2)
      clear A T hz8
      go_wp2_with fail
      go_region_held_law (fun _ => True) (trivial) (first
        | (refine step_u8 _ (by rfl) (.tmp 18) (.tmp 19) (by rfl) w.heap.size _ 1 (INTS [3]) (by rfl) T1.out.2.1 tb 0 8 8 (INTS (BE8 n)) (by rfl) T1.out.1 (by decide) (by decide) (by have := T1.out.2.2.1; simp at this ⊢; omega) 9 rfl ?_; intro g5 c5 w5 hown5 hgrow5 hat5 hlt5)
        | (refine step_u8 _ (by rfl) (.tmp 20) (.tmp 21) (by rfl) w.heap.size _ 9 _ (by rfl) hown5 w.heap.size 0 32 32 (INTS ((List.range 32).map r)) (by rfl) (T1.out.2.2.2 _ hgrow5).1 (by decide) (by decide) (T1.out.2.2.2 _ hgrow5).2.1 41 rfl ?_; intro g6 c6 w6 hown6 hgrow6 hat6 hlt6))
      have S : Aside (w6.ownsRow w.heap.size 5 1 (.slice (some ⟨g6, 0, none⟩) 41 c6) 41 (CELLS (INTS (3 :: (BE8 n ++ (List.range 32).map r)))) ∧ Below w.heap.size w w6) := by
        have hb5 := (T1.out.2.2.2 _ hgrow5).2.2.1
        refine ⟨?_, hb5.grown hgrow6 hb5.size (fun k e => (hown5.lt k e).1)⟩
        have e : INTS [3] ++ INTS (BE8 n) ++ INTS ((List.range 32).map r) = INTS (3 :: (BE8 n ++ (List.range 32).map r)) := by simp [INTS]
        rw [e] at hown6
        exact hown6
      clear hown5 hgrow5 hat5 hlt5 hown6 hgrow6 hat6 hlt6 T1
      go_simp
      go_wp2
      go_ret
      exact ⟨_, _, rfl, S.out.1, S.out.2⟩
    | succ q =>
      obtain ⟨q8, hz, hH, hrr, hbel⟩ := A.out
      have e0 : ((q + 1 : Nat) : Int) - 1 = (q : Int) := by omega
      have e0' : ¬ (q : Int) < 0 := by omega
      have e0'' : (q : Int) < 8 := by omega
      have ew : wrap64 ((q : Int) - 1) = (q : Int) - 1 := by unfold wrap64; omega
      have hz64' : z < 2 ^ 64 := by rw [hz]; exact Nat.lt_of_le_of_lt (Nat.div_le_self _ _) H.out.1
      obtain ⟨b0, hb0⟩ : ∃ b0, z % 256 = b0 := ⟨_, rfl⟩
      obtain ⟨z2, hz2⟩ : ∃ z2, z / 256 = z2 := ⟨_, rfl⟩
      have em : (z : Int) % 256 = (b0 : Int) := by omega
      have em2 : (b0 : Int) % 256 = (b0 : Int) := by omega
      have ed : (z : Int) / 256 = (z2 : Int) := by omega
      have ed2 : IntKind.u64.wrap (z2 : Int) = (z2 : Int) := by rw [wrapU]; omega
      have em3 : IntKind.u64.wrap (b0 : Int) = (b0 : Int) := by rw [wrapU]; omega
      have y0 : wr.cell? ⟨tb, q, none⟩ = some (.int .u8 0) := by
        rw [hH.cell q, UARR_get _ _ _ _ (by omega), if_neg (by omega)]
        rfl
      have f0 : wr.frozen? ⟨tb, q, none⟩ = false := hH.frozen q
      have R : Aside (q ≤ 8 ∧ z2 = n / 2 ^ (8 * (8 - q)) ∧ Has (wr.setCell ⟨tb, q, none⟩ (.int .u8 (b0 : Int))) tb (UARR .u8 8 fun j => if q ≤ j then n / 2 ^ (8 * (7 - j)) % 256 else 0) 130 ∧ Has (wr.setCell ⟨tb, q, none⟩ (.int .u8 (b0 : Int))) w.heap.size (UARR .u8 32 r) 26 ∧ Below w.heap.size w (wr.setCell ⟨tb, q, none⟩ (.int .u8 (b0 : Int)))) := by
        refine ⟨by omega, ?_, ?_, hrr.other (a := ⟨tb, q, none⟩) T.out.2.2.2.1 _, hbel.setCell (p := ⟨tb, q, none⟩) T.out.2.2.2.2 _⟩
        · rw [← hz2, hz, Nat.div_div_eq_div_mul, show (256 : Nat) = 2 ^ 8 from rfl, ← Nat.pow_add]
          congr 2
          omega
        · have h := hH.set q (.int .u8 (b0 : Int))
          rw [UARR_set] at h
          have e : (UARR .u8 8 fun j => if j = q then b0 else if q + 1 ≤ j then n / 2 ^ (8 * (7 - j)) % 256 else 0) = UARR .u8 8 fun j => if q ≤ j then n / 2 ^ (8 * (7 - j)) % 256 else 0 := UARR_ext fun j hj => by
            by_cases e : j = q
            · subst e
              rw [if_pos rfl, if_pos (Nat.le_refl _), ← hb0, hz]
              congr 3
              omega
            · rw [if_neg e]
              by_cases e2 : q + 1 ≤ j
              · rw [if_pos e2, if_pos (by omega)]
              · rw [if_neg e2, if_neg (by omega)]
          rw [e] at h
          exact h
      rw [e0]
      clear A hz hH hrr hbel q8 hb0 hz2 hz64'
      go_wp2
      go_roundg q
      case measure => omega
      case rel => exact ⟨z2, by first | rfl, by first | rfl | (rw [ew]), R.out⟩
end Go.Proofs.YtbmjoiiagldklaaDoor.HX

/- The hashes of the texts: Leaf, Node, Fold and Root, of the document (those of package hash: HashSumPlain). -/
namespace Go.Proofs.YtbmjoiiagldklaaDoor.HX
open Go.RowKit
set_option maxRecDepth 100000

/-- the same, of the document. -/
theorem lone_refsum {w : World} (d : Int) {B n c : Nat} {a : Option Addr} {l : List Nat} (h : w.ownsRow B 5 1 (.slice a n c) n (CELLS (INTS l))) (hs : Small8 l) (hl : l.length < 5000) :
    Calls Tryd.prog 42 #[.int .i64 d, .slice (some ⟨w.heap.size, 0, none⟩) 1 1] (w.alloc (.cells #[.slice a n c] 30)) fun e w' => e = .returned (.agg (UARR .u8 32 (HASHOF d l))) ∧ Below (w.alloc (.cells #[.slice a n c] 30)).heap.size (w.alloc (.cells #[.slice a n c] 30)) w' := by
  have := refsum_ok d _ 1 1 _ _ (own_parts h hs).1.zero (fun p hp => by simp only [List.mem_singleton] at hp; subst hp; exact (own_parts h hs).2) (by rw [join_one]; omega) (by decide)
  rw [join_one] at this
  exact this
theorem reffold_ok (d : Int) (l r : Nat → Nat) (hl : ∀ i, l i < 256) (hr : ∀ i, r i < 256) (w : World) : Calls Tryd.prog 20 #[.int .i64 d, .agg (UARR .u8 32 l), .agg (UARR .u8 32 r)] w fun e w' => e = .returned (.agg (UARR .u8 32 (HASHOF d (2 :: ((List.range 32).map l ++ (List.range 32).map r))))) ∧ Below w.heap.size w w' := by
  have hz := zero32
  have ct := fun W => reffoldtext_ok l r hl hr W
  have H : Aside ((∀ i, l i < 256) ∧ (∀ i, r i < 256)) := ⟨hl, hr⟩
  obtain ⟨W, zb, lb, rb, hW, hzb, hlb, hrb, R, h4, h5⟩ : ∃ W zb lb rb, W = ((w.alloc (.cells (UARR .u8 32 l) 26)).alloc (.cells (UARR .u8 32 r) 26)).alloc (.cells (UARR .u8 32 fun _ => 0) 26) ∧ zb = w.heap.size + 1 + 1 ∧ lb = w.heap.size ∧ rb = w.heap.size + 1 ∧ Aside (Has W zb (UARR .u8 32 fun _ => 0) 26 ∧ Below w.heap.size w W ∧ w.heap.size ≤ zb) ∧ W.rangeAt lb 0 (ULIST .u8 32 l) ∧ W.rangeAt rb 0 (ULIST .u8 32 r) := by
    refine ⟨_, _, _, _, rfl, rfl, rfl, rfl, ⟨Has.at _ _ _ (by simp), (((Below.refl _ _).alloc (Nat.le_refl _) _).alloc (by simp) _).alloc (by simp; omega) _, by omega⟩, (((Has.new w _ _).alloc _).alloc _).whole, ((Has.at _ _ _ (by simp)).alloc _).whole⟩
  clear hl hr
  go_enter Tryd.func20, Tryd.ntmps20
  go_wp2_with (first
    | (rw [← hW]; refine wpList_load_mid rfl 26 (.tmp 4) rfl w.heap.size 0 rfl (ULIST .u8 32 l) (.array 32 5) (by rw [← hlb]; exact h4) Tryd.underlying26 rfl (by rw [ULIST_length]; exact info_hash) ?_; rw [← UARR_list])
    | (refine wpList_load_mid rfl 26 (.tmp 5) rfl (w.heap.size + 1) 0 rfl (ULIST .u8 32 r) (.array 32 5) (by rw [← hrb]; exact h5) Tryd.underlying26 rfl (by rw [ULIST_length]; exact info_hash) ?_; rw [← UARR_list]))
  rw [← hzb]
  refine (ct _).mono ?_
  rintro e w2 ⟨a', c', rfl, hown, hb⟩
  rw [← hW] at hown hb
  clear ct h4 h5 hW hzb hlb hrb
  have S : Aside (Has w2 zb (UARR .u8 32 fun _ => 0) 26 ∧ Below w.heap.size w w2) := ⟨R.out.1.keep hb, R.out.2.1.trans (hb.mono R.out.2.1.size)⟩
  have cs := lone_refsum d hown (small_cons' (by decide) (small_app' (small_map' H.out.1) (small_map' H.out.2))) (by simp)
  have Z : Aside (w.heap.size ≤ zb) := R.out.2.2
  clear hown hb R
  go_wp2_with fail
  refine cs.mono ?_
  rintro e w3 ⟨rfl, hb3⟩
  have hb4 : Below w2.heap.size w2 w3 := ((Below.refl _ _).alloc (Nat.le_refl _) _).trans (hb3.mono (by simp))
  have S2 : Aside (Has w3 zb (UARR .u8 32 fun _ => 0) 26 ∧ Below w.heap.size w w3) := ⟨S.out.1.keep hb4, S.out.2.trans (hb4.mono S.out.2.size)⟩
  clear cs hb3 hb4 S
  go_wp2_with (first
    | (refine wpList_store_row rfl 26 _ _ rfl _ _ rfl rfl _ _ S2.out.1 (info_HASH _) (by rw [UARR_size, UARR_size]) (UARR_one _ _ _) ?_))
  refine bodyPost_ret (v := .agg (UARR .u8 32 (HASHOF d (2 :: ((List.range 32).map l ++ (List.range 32).map r))))) ?_ rfl ⟨rfl, below_row S2.out.2 Z.out _⟩
  exact results_cell_row rfl _ _ zb 26 _ (0, 0) _ rfl (S2.out.1.row _) Tryd.underlying26 rfl (info_HASH _)
theorem refroot_ok (d : Int) (n : Nat) (hn : n < 2 ^ 64) (r : Nat → Nat) (hr : ∀ i, r i < 256) (w : World) : Calls Tryd.prog 19 #[.int .i64 d, .int .u64 (n : Int), .agg (UARR .u8 32 r)] w fun e w' => e = .returned (.agg (UARR .u8 32 (HASHOF d (3 :: (BE8 n ++ (List.range 32).map r))))) ∧ Below w.heap.size w w' := by
  have hz := zero32
  have ct := fun W => refroottext_ok n hn r hr W
  have H : Aside ((∀ i, r i < 256)) := hr
  obtain ⟨W, zb, rb, hW, hzb, hrb, R, h5⟩ : ∃ W zb rb, W = (w.alloc (.cells (UARR .u8 32 r) 26)).alloc (.cells (UARR .u8 32 fun _ => 0) 26) ∧ zb = w.heap.size + 1 ∧ rb = w.heap.size ∧ Aside (Has W zb (UARR .u8 32 fun _ => 0) 26 ∧ Below w.heap.size w W ∧ w.heap.size ≤ zb) ∧ W.rangeAt rb 0 (ULIST .u8 32 r) := by
    refine ⟨_, _, _, rfl, rfl, rfl, ⟨Has.at _ _ _ (by simp), ((Below.refl _ _).alloc (Nat.le_refl _) _).alloc (by simp) _, by omega⟩, ((Has.new w _ _).alloc _).whole⟩
  clear hn hr
  go_enter Tryd.func19, Tryd.ntmps19
  go_wp2_with (first
    | (rw [← hW]; refine wpList_load_mid rfl 26 (.tmp 5) rfl w.heap.size 0 rfl (ULIST .u8 32 r) (.array 32 5) (by rw [← hrb]; exact h5) Tryd.underlying26 rfl (by rw [ULIST_length]; exact info_hash) ?_; rw [← UARR_list]))
  rw [← hzb]
  refine (ct _).mono ?_
  rintro e w2 ⟨a', c', rfl, hown, hb⟩
  rw [← hW] at hown hb
  clear ct h5 hW hzb hrb
  have S : Aside (Has w2 zb (UARR .u8 32 fun _ => 0) 26 ∧ Below w.heap.size w w2) := ⟨R.out.1.keep hb, R.out.2.1.trans (hb.mono R.out.2.1.size)⟩
  have cs := lone_refsum d hown (small_cons' (by decide) (small_app' (small_be8 n) (small_map' H.out))) (by simp [BE8])
  have Z : Aside (w.heap.size ≤ zb) := R.out.2.2
  clear hown hb R
  go_wp2_with fail
  refine cs.mono ?_
  rintro e w3 ⟨rfl, hb3⟩
  have hb4 : Below w2.heap.size w2 w3 := ((Below.refl _ _).alloc (Nat.le_refl _) _).trans (hb3.mono (by simp))
  have S2 : Aside (Has w3 zb (UARR .u8 32 fun _ => 0) 26 ∧ Below w.heap.size w w3) := ⟨S.out.1.keep hb4, S.out.2.trans (hb4.mono S.out.2.size)⟩
  clear cs hb3 hb4 S
  go_wp2_with (first
    | (refine wpList_store_row rfl 26 _ _ rfl _ _ rfl rfl _ _ S2.out.1 (info_HASH _) (by rw [UARR_size, UARR_size]) (UARR_one _ _ _) ?_))
  refine bodyPost_ret (v := .agg (UARR .u8 32 (HASHOF d (3 :: (BE8 n ++ (List.range 32).map r))))) ?_ rfl ⟨rfl, below_row S2.out.2 Z.out _⟩
  exact results_cell_row rfl _ _ zb 26 _ (0, 0) _ rfl (S2.out.1.row _) Tryd.underlying26 rfl (info_HASH _)
end Go.Proofs.YtbmjoiiagldklaaDoor.HX

/- The document's Bag: massifref6.Bag. -/
namespace Go.Proofs.YtbmjoiiagldklaaDoor.HX
open Go.RowKit
set_option maxRecDepth 100000

set_option maxHeartbeats 2000000 in
theorem refbag_far (d : Int) (n : Nat) (a : Option Addr) (k c : Nat) (w : World) (h1' : (4611686018427387904 : Int) < (n : Int)) :
    Calls Tryd.prog 6 #[.int .i64 d, .int .u64 (n : Int), .slice a k c] w fun e w' => e = .returned (.tuple #[.agg (UARR .u8 32 fun _ => 0), .int .i64 30]) ∧ Below w.heap.size w w' := by
  have hz := zeroHash
  obtain ⟨w0, hw0⟩ : ∃ w0, w.alloc (.cells (UARR .u8 32 fun _ => 0) 26) = w0 := ⟨_, rfl⟩
  have hb0 : Below w.heap.size w w0 := by rw [← hw0]; exact (Below.refl _ _).alloc (Nat.le_refl _) _
  have h40 : Has w0 w.heap.size (UARR .u8 32 fun _ => 0) 26 := by rw [← hw0]; exact Has.new w _ _
  have hst2 := store_cells32 h40 (fun _ => 0)
  have hsu := UARR_size .u8 32 (fun _ => 0)
  go_enter Tryd.func6, Tryd.ntmps6
  go_wp2
  refine bodyPost_ret (v := .tuple #[.agg (UARR .u8 32 fun _ => 0), .int .i64 30]) ?_ rfl ⟨rfl, below_row hb0 (Nat.le_refl _) _⟩
  exact results_hash rfl _ _ w.heap.size 26 _ (0, 0) _ _ rfl (h40.row _) _ rfl Tryd.underlying26 (info_HASH _)
set_option maxHeartbeats 2000000 in
theorem refbag_count (d : Int) (n : Nat) (hn : n ≤ 4611686018427387904) (a : Option Addr) (k c : Nat) (w : World) (hk : k ≠ PC n) :
    Calls Tryd.prog 6 #[.int .i64 d, .int .u64 (n : Int), .slice a k c] w fun e w' => e = .returned (.tuple #[.agg (UARR .u8 32 fun _ => 0), .int .i64 70]) ∧ Below w.heap.size w w' := by
  have hz := zeroHash
  obtain ⟨w0, hw0⟩ : ∃ w0, w.alloc (.cells (UARR .u8 32 fun _ => 0) 26) = w0 := ⟨_, rfl⟩
  have hb0 : Below w.heap.size w w0 := by rw [← hw0]; exact (Below.refl _ _).alloc (Nat.le_refl _) _
  have h40 : Has w0 w.heap.size (UARR .u8 32 fun _ => 0) 26 := by rw [← hw0]; exact Has.new w _ _
  have h1' : ¬ (4611686018427387904 : Int) < (n : Int) := by omega
  have co := tops_ok n hn w0
  generalize SCELLS (TOPS 0 n) = SC at co
  generalize PC n = pp at *
  have e2 : ¬ (k : Int) = (pp : Int) := by omega
  clear hn
  go_enter Tryd.func6, Tryd.ntmps6
  go_wp2_with fail
  refine co.mono ?_
  rintro e w1 ⟨v, rfl, hown, hb1⟩
  obtain ⟨a', c', rfl⟩ := own_shape hown
  clear co hown
  have h41 := h40.keep hb1
  have hb01 : Below w.heap.size w w1 := hb0.trans (hb1.mono hb0.size)
  have hst2 := store_cells32 h41 (fun _ => 0)
  have hsu := UARR_size .u8 32 (fun _ => 0)
  clear hb1
  go_wp2
  refine bodyPost_ret (v := .tuple #[.agg (UARR .u8 32 fun _ => 0), .int .i64 70]) ?_ rfl ⟨rfl, below_row hb01 (Nat.le_refl _) _⟩
  exact results_hash rfl _ _ w.heap.size 26 _ (0, 0) _ _ rfl (h41.row _) _ rfl Tryd.underlying26 (info_HASH _)
end Go.Proofs.YtbmjoiiagldklaaDoor.HX

/- The peaks that follow from a prefix proof, by the joins of the map and by halves: the same. -/
namespace Go.Proofs.YtbmjoiiagldklaaDoor
set_option maxRecDepth 100000

end Go.Proofs.YtbmjoiiagldklaaDoor

/- The regions of massifref8.Climb that draw their order. -/
namespace Go.Proofs.YtbmjoiiagldklaaDoor
open Go.RowKit
set_option maxRecDepth 100000

end Go.Proofs.YtbmjoiiagldklaaDoor

/- What Long of package num answers. -/
namespace Go.Proofs.YtbmjoiiagldklaaDoor
open Go.RowKit

/-- what a number in groups of 7 bits reads as, from the k-th byte on: the number, how many bytes, what is wrong. -/
def LG (l : List Int) (n : Nat) : Nat → Nat → Int → Int × Int × Int
  | 0, _, _ => (0, 0, 10)
  | f + 1, k, x => if k = n then (0, 0, 11) else if 128 ≤ l.getD k 0 then LG l n f (k + 1) (x + l.getD k 0 % 128 * 128 ^ k)
    else if k = 9 ∧ 1 < l.getD k 0 then (0, 0, 10) else if l.getD k 0 = 0 ∧ 0 < k then (0, 0, 12) else (x + l.getD k 0 * 128 ^ k, (k : Int) + 1, 0)
theorem LG_more {l : List Int} {n f k : Nat} {x : Int} (h : k ≠ n) (hc : 128 ≤ l.getD k 0) : LG l n (f + 1) k x = LG l n f (k + 1) (x + l.getD k 0 % 128 * 128 ^ k) := by
  show (if k = n then _ else _) = _
  rw [if_neg h, if_pos hc]
/-! shifts by whole groups -/
theorem pow7 (k : Nat) : (2 : Nat) ^ (7 * k) = 128 ^ k := by rw [Nat.pow_mul]
theorem group_shl (L k : Nat) : SHL L (7 * (k : Int)) = L * 128 ^ k % 2 ^ 64 := by
  unfold SHL
  rw [if_neg (by omega), show (7 * (k : Int)).toNat = 7 * k by omega, pow7]
theorem group_small {L k : Nat} (hL : L < 128) (hk : k ≤ 8) : L * 128 ^ k % 2 ^ 64 = L * 128 ^ k := by
  have h := Nat.pow_le_pow_right (n := 128) (by decide) hk
  have h2 : L * 128 ^ k ≤ 127 * 128 ^ 8 := Nat.mul_le_mul (by omega) h
  exact Nat.mod_eq_of_lt (Nat.lt_of_le_of_lt h2 (by decide))
theorem group_or {x L k : Nat} (hx : x < 128 ^ k) (hL : L < 128) (hk : k ≤ 8) : bits .or .u64 (x : Int) ((L * 128 ^ k % 2 ^ 64 : Nat) : Int) = ((x + L * 128 ^ k : Nat) : Int) := by
  have h8 := Nat.pow_le_pow_right (n := 128) (by decide) hk
  have hx2 : x < 2 ^ 64 := Nat.lt_of_lt_of_le hx (Nat.le_trans h8 (by decide))
  rw [or_eq hx2 (Nat.mod_lt _ (by decide)), group_small hL hk, Nat.or_comm, nat_join (7 * k) _ x (by rw [pow7]; exact Nat.mul_mod_left _ _) (by rw [pow7]; exact hx), Nat.add_comm]
theorem group_or9 {x L : Nat} (hx : x < 128 ^ 9) (hL : L < 2) : bits .or .u64 (x : Int) ((L * 128 ^ 9 % 2 ^ 64 : Nat) : Int) = ((x + L * 128 ^ 9 : Nat) : Int) := by
  have h1 : L * 128 ^ 9 % 2 ^ 64 = L * 128 ^ 9 := Nat.mod_eq_of_lt (by omega)
  rw [or_eq (Nat.lt_of_lt_of_le hx (by decide)) (Nat.mod_lt _ (by decide)), h1, Nat.or_comm, nat_join (7 * 9) _ x (by omega) (by omega), Nat.add_comm]

/-- what holds of the number that has been gathered ahead of the k-th byte. -/
def Gath (l : List Int) (n k : Nat) (y : Int) (R : Int × Int × Int) : Prop := ∃ x : Nat, LG l n (10 - k) k (x : Int) = R ∧ (k ≤ 9 → y = (x : Int) ∧ x < 128 ^ k)
theorem Gath.start (l : List Int) (n : Nat) : Gath l n 0 0 (LG l n 10 0 0) := ⟨0, rfl, fun _ => ⟨rfl, by decide⟩⟩
theorem Gath.next {l : List Int} {n k : Nat} {y v p : Int} {R : Int × Int × Int} (A : Gath l n k y R) (hk : k ≤ 9) (hkn : k ≠ n) (hv : l.getD k 0 = v) (h0 : 128 ≤ v)
    (hp : p = ((SHL (v % 128).toNat (7 * (k : Int)) : Nat) : Int)) : Gath l n (k + 1) (bits .or .u64 y p) R := by
  obtain ⟨x, hx, hy⟩ := A
  obtain ⟨rfl, hlt⟩ := hy hk
  obtain ⟨L, hL⟩ : ∃ L : Nat, v % 128 = (L : Int) := ⟨(v % 128).toNat, by omega⟩
  rw [show 10 - k = 10 - (k + 1) + 1 by omega, LG_more hkn (by rw [hv]; exact h0), hv, hL] at hx
  have hL128 : L < 128 := by omega
  rw [hL, Int.toNat_natCast, group_shl] at hp
  refine ⟨x + L * 128 ^ k, ?_, fun h => ?_⟩
  · rw [← hx]
    congr 1
  · rw [hp, group_or hlt hL128 (by omega)]
    refine ⟨rfl, ?_⟩
    have : L * 128 ^ k ≤ 127 * 128 ^ k := Nat.mul_le_mul_right _ (by omega)
    rw [Nat.pow_succ]
    omega
theorem Gath.val {l : List Int} {n k : Nat} {y v p : Int} {R : Int × Int × Int} (A : Gath l n k y R) (hk : k ≤ 9) (h0 : 0 ≤ v) (h1 : ¬ 128 ≤ v) (h9 : ¬ (k = 9 ∧ 1 < v))
    (hp : p = ((SHL (v % 128).toNat (7 * (k : Int)) : Nat) : Int)) : bits .or .u64 y p = y + v * 128 ^ k := by
  obtain ⟨x, _, hy⟩ := A
  obtain ⟨rfl, hlt⟩ := hy hk
  obtain ⟨L, rfl⟩ : ∃ L : Nat, v = (L : Int) := ⟨v.toNat, by omega⟩
  rw [show (((L : Int) % 128).toNat) = L by omega, group_shl] at hp
  by_cases h : k = 9
  · subst h
    rw [hp, group_or9 hlt (by omega)]
    simp
  · rw [hp, group_or hlt (by omega) (by omega)]
    simp
end Go.Proofs.YtbmjoiiagldklaaDoor

/- Short and Long, as lists; no Go in sight. -/
namespace Go.Proofs.YtbmjoiiagldklaaDoor
open Go.RowKit

/-- the number of the m lowest groups. -/
def VAL (d : Nat → Nat) : Nat → Nat
  | 0 => 0
  | m + 1 => VAL d m + d m * 128 ^ m
end Go.Proofs.YtbmjoiiagldklaaDoor

/- What the readers of package proof do with the bytes that are left: the mark, a number. -/
namespace Go.Proofs.YtbmjoiiagldklaaDoor
open Go.RowKit
set_option maxRecDepth 100000

/-- s[k:], of bytes: what is behind. -/
theorem Bytes.rest {w : World} {b off n : Nat} {l : List Int} (h : Bytes w (some ⟨b, off, none⟩) n l) (k : Nat) (hk : k ≤ n) : Bytes w (some ⟨b, off + k, none⟩) (n - k) (l.drop k) := by
  refine ⟨by rw [List.length_drop, h.1], fun hn => ?_, fun x hx => h.2.2 x (List.mem_of_mem_drop hx)⟩
  obtain ⟨b', o', e, hl, hc⟩ := h.2.1 (by omega)
  simp only [Option.some.injEq, Addr.mk.injEq] at e
  obtain ⟨rfl, rfl, _⟩ := e
  refine ⟨b, off + k, rfl, hl, fun i hi => ?_⟩
  rw [show off + k + i = off + (k + i) by omega, hc (k + i) (by omega)]
  congr 2
  rw [List.getD_eq_getElem?_getD, List.getD_eq_getElem?_getD, List.getElem?_drop]
/-- where s[k:] begins: where no room is left, the address stays. -/
def REST (b off c k : Nat) : Option Addr := if c = k then some ⟨b, off, none⟩ else some ⟨b, off + k, none⟩
theorem Bytes.behind {w : World} {b off n c : Nat} {l : List Int} (h : Bytes w (some ⟨b, off, none⟩) n l) (k : Nat) (hk : k ≤ n) (hc : n ≤ c) : Bytes w (REST b off c k) (n - k) (l.drop k) := by
  unfold REST
  split
  · have h0 : n - k = 0 := by omega
    rw [h0]
    refine ⟨?_, fun h => by omega, fun x hx => h.2.2 x (List.mem_of_mem_drop hx)⟩
    rw [List.length_drop, h.1, h0]
  · exact h.rest k hk
end Go.Proofs.YtbmjoiiagldklaaDoor

/- A list of hashes that is made, and filled node by node. -/
namespace Go.Proofs.YtbmjoiiagldklaaDoor
open Go.RowKit
set_option maxRecDepth 100000

end Go.Proofs.YtbmjoiiagldklaaDoor

/- What the readers of package proof do with the bytes that are left: the nodes. -/
namespace Go.Proofs.YtbmjoiiagldklaaDoor
open Go.RowKit
set_option maxRecDepth 100000

end Go.Proofs.YtbmjoiiagldklaaDoor

/- A number in front of bytes. -/
namespace Go.Proofs.YtbmjoiiagldklaaDoor
open Go.RowKit

/-- a number in front of bytes: it, how many bytes it has, or what is wrong. -/
def LNG (t : List Int) : Int × Int × Int := LG t t.length 10 0 0
end Go.Proofs.YtbmjoiiagldklaaDoor

/- What Decode and DecodePrefix answer, of any bytes. -/
namespace Go.Proofs.YtbmjoiiagldklaaDoor
open Go.RowKit

/-- an error, two numbers, how many nodes, their bytes. -/
abbrev DANS := Int × Nat × Nat × Nat × List Int
def DERR (E : Int) : DANS := (E, 0, 0, 0, [])
/-- the nodes, behind the numbers X and Y; PF: how many there are to be. -/
def DC3 (PF : Nat → Nat → Int × List Nat) (X Y : Nat) (t : List Int) : DANS :=
  if (PF X Y).1 ≠ 0 then DERR (PF X Y).1 else if t.length < 32 * (PF X Y).2.length then DERR 11 else if 32 * (PF X Y).2.length < t.length then DERR 13 else (0, X, Y, (PF X Y).2.length, t)
/-- the second number. -/
def DC2 (PF : Nat → Nat → Int × List Nat) (X : Nat) (t : List Int) : DANS :=
  if (LNG t).2.2 ≠ 0 then DERR (LNG t).2.2 else DC3 PF X (LNG t).1.toNat (t.drop (LNG t).2.1.toNat)
/-- the first number; chk: is it too great? -/
def DC1 (chk : Nat → Bool) (PF : Nat → Nat → Int × List Nat) (t : List Int) : DANS :=
  if (LNG t).2.2 ≠ 0 then DERR (LNG t).2.2 else if chk (LNG t).1.toNat = true then DERR 30 else DC2 PF (LNG t).1.toNat (t.drop (LNG t).2.1.toNat)
/-- the mark. -/
def DC0 (K : Int) (chk : Nat → Bool) (PF : Nat → Nat → Int × List Nat) (l : List Int) : DANS :=
  if l.length = 0 then DERR 11 else if l.getD 0 0 ≠ K then DERR 14 else DC1 chk PF (l.drop 1)
end Go.Proofs.YtbmjoiiagldklaaDoor

/- There and back: what Encode writes is what Decode reads, and the other way round. -/
namespace Go.Proofs.YtbmjoiiagldklaaDoor
open Go.RowKit

end Go.Proofs.YtbmjoiiagldklaaDoor

/- What the document's Big, FromBig, Short and Long give. -/
namespace Go.Proofs.YtbmjoiiagldklaaDoor
open Go.RowKit

end Go.Proofs.YtbmjoiiagldklaaDoor

/- What the document's Long gives. -/
namespace Go.Proofs.YtbmjoiiagldklaaDoor
open Go.RowKit

/-- the groups from j on, put together from the highest one down. -/
def Tops (d : Nat → Nat) (j : Nat) (x : Int) (V : Nat) : Prop := ∃ y : Nat, x = (y : Int) ∧ VAL d j + y * 128 ^ j = V
theorem Tops.down {d : Nat → Nat} {j V : Nat} {x v : Int} (A : Tops d (j + 1) x V) (hV : V < 2 ^ 64) (hv : (v % 128).toNat = d j) : Tops d j (IntKind.u64.wrap (IntKind.u64.wrap (128 * x) + v % 128)) V := by
  obtain ⟨y, rfl, hy⟩ := A
  have e : VAL d j + (128 * y + d j) * 128 ^ j = V := by
    rw [← hy, VAL, Nat.add_mul, Nat.pow_succ, Nat.mul_comm 128 y, Nat.mul_assoc, Nat.mul_comm 128 (128 ^ j)]
    omega
  have hl : 128 * y + d j ≤ V := by
    have h1 : (128 * y + d j) * 1 ≤ (128 * y + d j) * 128 ^ j := Nat.mul_le_mul_left _ (Nat.pow_pos (by decide))
    omega
  refine ⟨128 * y + d j, ?_, e⟩
  rw [wrapU, wrapU, ← hv]
  omega

end Go.Proofs.YtbmjoiiagldklaaDoor

/- What the document's Wants, Take and Decode answer, of any bytes. -/
namespace Go.Proofs.YtbmjoiiagldklaaDoor
open Go.RowKit
set_option maxRecDepth 100000

end Go.Proofs.YtbmjoiiagldklaaDoor

/- What the document's Put and Encode answer, of any proof. -/
namespace Go.Proofs.YtbmjoiiagldklaaDoor
open Go.RowKit
set_option maxRecDepth 100000

end Go.Proofs.YtbmjoiiagldklaaDoor

/- What the document's Climb answers: what the program's does. -/
namespace Go.Proofs.YtbmjoiiagldklaaDoor
open Go.RowKit
set_option maxRecDepth 100000

end Go.Proofs.YtbmjoiiagldklaaDoor

/- The document's Over: the hash of a spot, by halves down to the spots of a list. -/
namespace Go.Proofs.YtbmjoiiagldklaaDoor
open Go.RowKit
set_option maxRecDepth 100000

end Go.Proofs.YtbmjoiiagldklaaDoor

/- The region of the document's Reach that draws its order. -/
namespace Go.Proofs.YtbmjoiiagldklaaDoor
open Go.RowKit
set_option maxRecDepth 100000

end Go.Proofs.YtbmjoiiagldklaaDoor

/- A list of spots is put behind another one; the document's Span of any two sizes. -/
namespace Go.Proofs.YtbmjoiiagldklaaDoor
open Go.RowKit
set_option maxRecDepth 100000

theorem own_sliced8 {w : World} {B s n : Nat} {t : TypeId} {v : Value} {xs : List Value} (h : w.ownsRow B t s v n xs) : ∃ a c, v = .slice a n c := by
  rcases h.2 with ⟨e, h0⟩ | ⟨g, cap, cur, e, _⟩
  · exact ⟨none, 0, by rw [e, h0]⟩
  · exact ⟨_, _, e⟩
theorem TOPS_span {n : Nat} (hn : n ≤ 4611686018427387904) : TOPS 0 n = SPAN 0 n := by
  have hl := TOPS_length (n := n) (by omega) 0 (by omega)
  rw [Nat.pow_zero, Nat.div_one] at hl
  refine List.ext_getElem? fun j => ?_
  by_cases hj : j < PC n
  · rw [TOPS_at (by omega) hj, SPAN_zero_at hn hj]
  · rw [List.getElem?_eq_none (by omega), List.getElem?_eq_none (by rw [SPAN_zero_length hn]; omega)]
theorem tops8_ok (n : Nat) (hn : n ≤ 4611686018427387904) (w : World) : Calls Tryd.prog 18 #[.int .u64 (n : Int)] w fun e w' =>
    ∃ a c, e = .returned (.slice a (PC n) c) ∧ w'.ownsRow w.heap.size 88 2 (.slice a (PC n) c) (PC n) (SCELLS (SPAN 0 n)) ∧ Below w.heap.size w w' := by
  refine (tops_ok n hn w).mono ?_
  rintro e w' ⟨v, rfl, ho, hb⟩
  obtain ⟨a, c, rfl⟩ := own_sliced8 ho
  rw [TOPS_span hn] at ho
  exact ⟨a, c, rfl, ho, hb⟩
theorem Flat.take {w : World} {a : Option Addr} {n : Nat} {l : List Int} (h : Flat w a n l) {m : Nat} (hm : m ≤ n) : Flat w a m (l.take (32 * m)) := by
  refine ⟨by rw [List.length_take, h.1]; omega, fun h0 => ?_, fun x hx => h.2.2 x (List.mem_of_mem_take hx)⟩
  obtain ⟨b, o, e, hb, hc⟩ := h.2.1 (by omega)
  refine ⟨b, o, e, hb, fun j hj => ?_⟩
  rw [hc j (by omega)]
  congr 2
  rw [List.getD_eq_getElem?_getD, List.getD_eq_getElem?_getD, List.getElem?_take, if_pos (by omega)]
end Go.Proofs.YtbmjoiiagldklaaDoor

/- What the document's Reach answers: what the program's does. -/
namespace Go.Proofs.YtbmjoiiagldklaaDoor
open Go.RowKit
set_option maxRecDepth 100000

end Go.Proofs.YtbmjoiiagldklaaDoor
